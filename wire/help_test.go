package wire_test

import (
	"fmt"
	"slices"
	"strings"
	"testing"

	"gitlike/api"
)

// raw is packet lines of these texts as they are; an empty one is a flush.
func raw(lines ...string) string {
	var b strings.Builder
	for _, s := range lines {
		if s == "" {
			b.WriteString("0000")
		} else {
			fmt.Fprintf(&b, "%04x%s", len(s)+4, s)
		}
	}
	return b.String()
}

// said is packet lines of these texts, with a line's end behind each but a flush.
func said(texts ...string) string {
	var l []string
	for _, s := range texts {
		if s != "" {
			s += "\n"
		}
		l = append(l, s)
	}
	return raw(l...)
}

// one, two: ids, and how they are written.
var (
	one = api.ID{1}
	two = api.ID{19: 0xfe}
)

const (
	hexNought = "0000000000000000000000000000000000000000"
	hexOne    = "0100000000000000000000000000000000000000"
	hexTwo    = "00000000000000000000000000000000000000fe"
	main      = "refs/heads/main"
	side      = "refs/heads/side"
)

// longName is the longest name there can be.
var longName = "refs/" + strings.Repeat("x", api.MaxName-5)

// noNames are texts that are no names of refs.
func noNames() []string {
	return []string{"", "x", "head", "HEADS", "heads/main", "refs", "refs/", "refs//a", "refs/a b", "refs/a\n", "refs/a\nb", "\nrefs/a", " refs/a", "refs/a ", "refs/a\x00", "refs/ä", "refs/a.lock", "refs/a..b", "refs/a?", longName + "x", strings.Repeat("x", api.MaxPkt+1)}
}

// numbered is so many names, rising.
func numbered(n int) []string {
	var l []string
	for i := range n {
		l = append(l, fmt.Sprintf("refs/heads/%06d", i))
	}
	return l
}

// numberedIDs is so many ids, no two the same.
func numberedIDs(n int) []api.ID {
	var l []api.ID
	for i := range n {
		l = append(l, api.ID{byte(i), byte(i >> 8), 7})
	}
	return l
}

func hexes(l []api.ID) []string {
	var s []string
	for _, id := range l {
		s = append(s, fmt.Sprintf("%x", id[:]))
	}
	return s
}

// ahead lays a text ahead of each.
func ahead(s string, l []string) []string {
	var out []string
	for _, x := range l {
		out = append(out, s+x)
	}
	return out
}

// brief is a text, quoted; of a long one its beginning.
func brief(s string) string {
	if len(s) > 300 {
		return fmt.Sprintf("%q.. (%d bytes)", s[:300], len(s))
	}
	return fmt.Sprintf("%q", s)
}

// wrote wants a Write.. to have written that.
func wrote(t *testing.T, what string, got []byte, err error, want string) {
	t.Helper()
	if err != nil || string(got) != want {
		t.Errorf("%s: %s, %v, not %s", what, brief(string(got)), err, brief(want))
	}
}

// refused wants a Write.. to have refused it.
func refused(t *testing.T, what string, got []byte, err error) {
	t.Helper()
	if api.Tell(err) != api.ErrTalk || len(got) != 0 {
		t.Errorf("%s: %s, %v, not ErrTalk", what, brief(string(got)), err)
	}
}

// talk is a way to read, told by what it read, as a text, and the error. Nothing is read with an error.
type talk struct {
	name string
	read func(b []byte) (string, error)
}

// bad wants texts to be read by nobody.
func (r talk) bad(t *testing.T, want api.Errno, texts ...string) {
	t.Helper()
	for _, s := range texts {
		got, err := r.read([]byte(s))
		if api.Tell(err) != want || got != "" {
			t.Errorf("%s(%s): %s, %v, not %v", r.name, brief(s), got, err, want)
		}
	}
}

// good wants a text to be read as that.
func (r talk) good(t *testing.T, s, want string) {
	t.Helper()
	got, err := r.read([]byte(s))
	if err != nil || got != want {
		t.Errorf("%s(%s): %s, %v, not %s", r.name, brief(s), got, err, want)
	}
}

// noLines are bytes that are no packet lines, ahead of which these may stand.
func noLines(front string) []string {
	var l []string
	for _, s := range []string{"0", "00", "000", "0001", "0002", "0003", "0004", "0005", "0006a", "000A123456", "00 0", "+000", "-000", "0x05", "000g", "00a", "03ed" + strings.Repeat("a", 1001), "ffff", "\n", "0\n00", "000\x00"} {
		l = append(l, front+s)
	}
	return l
}

// without is a text cut short at each place.
func without(s string) []string {
	var l []string
	for i := range s {
		l = append(l, s[:i])
	}
	return l
}

// concat is all lists in one.
func concat(l ...[]string) []string { return slices.Concat(l...) }
