package refs_test

import (
	"math/rand"
	"regexp"
	"strings"
	"testing"

	"gitlike/api"
	"gitlike/refs"
)

// TestNames: 7.1, texts that are names, and texts that are none.
func TestNames(t *testing.T) {
	for _, s := range []string{
		"HEAD", "refs/a", "refs/heads/main", "refs/a/b/c/d/e", "refs/HEAD", "refs/refs", "refs/a.b", "refs/a.b.c", "refs/@", "refs/@a{", "refs/{@", "refs/a@",
		"refs/-", "refs/!", "refs/}", "refs/lock", "refs/a.lockb", "refs/a.LOCK", "refs/a.loc", "refs/alock", "refs/a.new", "refs/a.lock.b",
		"refs/" + strings.Repeat("x", 55), "refs/" + strings.Repeat("a/", 27) + "b", `refs/"'#$%&()+,;<=>]_|` + "`",
	} {
		if !refs.IsName(s) {
			t.Errorf("IsName(%q): false", s)
		}
	}
	for _, s := range []string{
		"", "H", "HEA", "HEADS", "head", "Head", "HEAD/", "HEAD/a", " HEAD", "HEAD ", "refs", "refs/", "/refs/a", "/", "//", "ref/a", "refsa/b", "Refs/a", "heads/main", "a",
		"refs//a", "refs/a//b", "refs/a/", "refs/a/b/", "refs//", "refs/.a", "refs/.", "refs/..", "refs/a/.b", "refs/.a/b", "refs/a/./b",
		"refs/a.lock", "refs/.lock", "refs/a.lock/b", "refs/a/b.lock", "refs/a..b", "refs/a../b", "refs/a...b", "refs/a.", "refs/a/b.",
		"refs/@{", "refs/a@{b", "refs/a@{", "refs/@{u}", "refs/" + strings.Repeat("x", 56), "refs/" + strings.Repeat("x", 1<<20), "refs/ü", "refs/\xff", "refs/a\x80b",
	} {
		if refs.IsName(s) {
			t.Errorf("IsName(%q): true", s)
		}
	}
}

// TestNameBytes: 7.1, each byte within a name, at its begin and at its end.
func TestNameBytes(t *testing.T) {
	for b := range 256 {
		c := string([]byte{byte(b)})
		bad := b < 33 || b > 126 || strings.Contains(`~^:?*[\`, c)
		for s, none := range map[string]bool{
			"refs/a" + c + "b":   bad,
			"refs/" + c + "a":    bad || c == "." || c == "/",
			"refs/a" + c:         bad || c == "." || c == "/",
			"refs/a" + c + "/b":  bad || c == "/",
			"refs" + c + "a":     c != "/",
			"refs/a/" + c + "/b": bad || c == "." || c == "/",
		} {
			if refs.IsName(s) == none {
				t.Errorf("IsName(%q): %v", s, !none)
			}
		}
	}
}

// TestNamesByLot: 7.1, against the same said in another way.
func TestNamesByLot(t *testing.T) {
	part := `(?:[!-.0-~])+`
	form := regexp.MustCompile(`^refs(?:/` + part + `)+$`)
	barred := regexp.MustCompile(`[~^:?*\[\\]|\.\.|@\{|\.$|/\.|\.lock/|\.lock$`)
	r := rand.New(rand.NewSource(1))
	pieces := []string{"refs", "HEAD", "/", "/", "/", "a", "b", ".", ".", ".lock", "lock", "@", "{", "~", "^", ":", "?", "*", "[", "\\", " ", "\x7f", "\n", "é", "\xf0", "0123456789012345678901234567890123456789"}
	for range 300000 {
		s := ""
		if r.Intn(4) > 0 {
			s = "refs/"
		}
		for range r.Intn(8) {
			s += pieces[r.Intn(len(pieces))]
		}
		want := s == "HEAD" || len(s) <= api.MaxName && form.MatchString(s) && !barred.MatchString(s)
		if refs.IsName(s) != want {
			t.Fatalf("IsName(%q): %v", s, !want)
		}
	}
}
