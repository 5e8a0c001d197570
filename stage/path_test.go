package stage_test

import (
	"strings"
	"testing"

	"gitlike/api"
	"gitlike/stage"
)

var (
	fifty   = strings.Repeat("n", 50)
	hundred = fifty + "/" + fifty[1:]           // a path of 100 bytes
	deepest = strings.Repeat("a/", 49) + "a"    // of as many parts as there can be
	tooLong = strings.Repeat("abcd/", 20) + "a" // 101 bytes, all parts of them names
	noParts = []string{"", ".", "..", ".git", "\x00", "a\x00", "\x00b", fifty + "n", strings.Repeat("é", 26)}
)

// isPath wants IsPath to say so, and Write too.
func isPath(t *testing.T, s string, want bool) {
	t.Helper()
	if stage.IsPath(s) != want {
		t.Errorf("IsPath of %.200q: %v", s, !want)
	}
	if !want {
		refused(t, s, all(s), api.ErrPath)
		return
	}
	if _, err := stage.Write(all(s)); err != nil {
		t.Errorf("Write of %q: %v", s, err)
	}
}

// TestPaths: 8.1, which texts are paths.
func TestPaths(t *testing.T) {
	for _, s := range []string{
		"a", "a/b", "a/b/c", " ", " / ", "\n", "\xff/\xfe", "é/é", "...", "a/...", ".../a", ".gita", "git", ".g/it", "a/.gitignore", ".GIT", "a.git/b", "\\/\\", "a\\b", "-", "a:b", "40000 a",
		fifty, "a/" + fifty, fifty + "/a", hundred, hundred[1:], deepest, deepest + "a", strings.Repeat("abcd/", 19) + "abcde",
	} {
		isPath(t, s, true)
	}
	for _, s := range []string{
		"", "/", "//", "/a", "a/", "a//b", "//a", "a//", "a/b/", "/a/b", "a///b", "a/b//c",
		hundred + "n", tooLong, fifty + "/" + fifty, deepest + "/a", deepest + "ab", strings.Repeat("é/", 34), strings.Repeat("a", 100), strings.Repeat("a/", 50), strings.Repeat("a/", 100000) + "a", strings.Repeat("/", 100), strings.Repeat("a", 1<<20),
	} {
		isPath(t, s, false)
	}
	for n := range 60 {
		isPath(t, strings.Repeat("n", n), n >= 1 && n <= 50)
	}
	for n := 85; n < 150; n++ {
		isPath(t, strings.Repeat("abcde/", 10)+strings.Repeat("b", n-83)+"/"+strings.Repeat("c", 22), n <= 100)
	}
}

// TestPartsThatAreNoNames: 8.1, one at each place of a path.
func TestPartsThatAreNoNames(t *testing.T) {
	for _, s := range noParts {
		for _, p := range []string{s, s + "/a", "a/" + s, "a/" + s + "/b", "a/b/" + s, s + "/a/b", s + "/" + s} {
			isPath(t, p, false)
		}
	}
}
