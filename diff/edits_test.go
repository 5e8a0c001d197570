package diff_test

import (
	"slices"
	"strings"
	"testing"

	"gitlike/api"
	"gitlike/diff"
)

// TestLines: 10.1, a text of no bytes, of lines with and without ends, of ends alone; only 10 is an end.
func TestLines(t *testing.T) {
	for _, c := range []struct {
		text string
		want []string
	}{
		{"", nil},
		{"a", []string{"a"}},
		{"a\n", []string{"a\n"}},
		{"\n", []string{"\n"}},
		{"\n\n\n", []string{"\n", "\n", "\n"}},
		{"\n\na", []string{"\n", "\n", "a"}},
		{"a\nb", []string{"a\n", "b"}},
		{"a\n\nb\n", []string{"a\n", "\n", "b\n"}},
		{"a\r\nb\rc\x00\n\xff\xfe\v\f\u2028\u0085", []string{"a\r\n", "b\rc\x00\n", "\xff\xfe\v\f\u2028\u0085"}},
	} {
		if got := diff.Lines([]byte(c.text)); !slices.Equal(got, c.want) {
			t.Errorf("Lines(%q): %q", c.text, got)
		}
	}
	if got := diff.Lines(nil); len(got) != 0 {
		t.Errorf("Lines(nil): %q", got)
	}
}

// TestEdits: 10.2, texts of letters that are lines.
func TestEdits(t *testing.T) {
	for _, c := range []struct{ a, b, want string }{
		{"", "", ""}, {"a", "", "-a"}, {"", "a", "+a"}, {"a", "a", " a"}, {"abc", "abc", " a b c"},
		// Nothing in common: all of a is dropped first.
		{"a", "b", "-a+b"}, {"abc", "xyz", "-a-b-c+x+y+z"}, {"abc", "x", "-a-b-c+x"}, {"a", "xyz", "-a+x+y+z"},
		{"abc", "axc", " a-b+x c"}, {"abc", "xbc", "-a+x b c"}, {"abc", "abx", " a b-c+x"},
		{"ab", "b", "-a b"}, {"b", "ab", "+a b"}, {"ab", "a", " a-b"}, {"a", "ab", " a+b"},
		// Another order: of rows that are as long as each other, the one is taken that drops first.
		{"ab", "ba", "-a b+a"}, {"abc", "cab", "+c a b-c"}, {"abcd", "cdab", "-a-b c d+a+b"}, {"abc", "cba", "-a-b c+b+a"},
		{"abcd", "bdca", "-a b-c d+c+a"}, {"abcabba", "cbabac", "-a-b c-a b+a b a+c"}, {"xaybz", "1a2b3", "-x+1 a-y+2 b-z+3"},
		// The same line more than once: what comes next on both sides is kept at once, though it is the end of both too.
		{"aa", "a", " a-a"}, {"a", "aa", " a+a"}, {"aab", "ab", " a-a b"}, {"ab", "aab", " a+a b"}, {"baab", "ab", "-b a-a b"},
		{"xa", "xxa", " x+x a"}, {"xax", "x", " x-a-x"}, {"x", "xax", " x+a+x"},
	} {
		l := diff.Edits(each(c.a), each(c.b))
		if got := show(l); got != c.want {
			t.Errorf("Edits(%s, %s): %q, not %q", c.a, c.b, got, c.want)
		}
		bySides(t, each(c.a), each(c.b), l)
	}
}

// TestEditsOfEnds: 10.2, a line with an end is not the one without it.
func TestEditsOfEnds(t *testing.T) {
	for _, c := range []struct {
		a, b string
		want []api.Edit
	}{
		{"a", "a", []api.Edit{{Kind: api.Keep, Line: "a"}}},
		{"a", "a\n", []api.Edit{{Kind: api.Drop, Line: "a"}, {Kind: api.Insert, Line: "a\n"}}},
		{"a\n", "a", []api.Edit{{Kind: api.Drop, Line: "a\n"}, {Kind: api.Insert, Line: "a"}}},
		{"a\na", "a", []api.Edit{{Kind: api.Drop, Line: "a\n"}, {Kind: api.Keep, Line: "a"}}},
		{"a\n", "a\na", []api.Edit{{Kind: api.Keep, Line: "a\n"}, {Kind: api.Insert, Line: "a"}}},
		{"\n\n", "\n", []api.Edit{{Kind: api.Keep, Line: "\n"}, {Kind: api.Drop, Line: "\n"}}},
		{"a\r\n", "a\n", []api.Edit{{Kind: api.Drop, Line: "a\r\n"}, {Kind: api.Insert, Line: "a\n"}}},
	} {
		if got := diff.Edits([]byte(c.a), []byte(c.b)); !slices.Equal(got, c.want) {
			t.Errorf("Edits(%q, %q): %+v", c.a, c.b, got)
		}
	}
}

// kindsOf is what becomes of the lines, one by one.
func kindsOf(l []api.Edit) []api.EditKind {
	var kinds []api.EditKind
	for _, e := range l {
		kinds = append(kinds, e.Kind)
	}
	return kinds
}

// kinds is so many kept, dropped, inserted lines, over and over again.
func kinds(numbers ...int) []api.EditKind {
	var l []api.EditKind
	for i, n := range numbers {
		l = append(l, slices.Repeat([]api.EditKind{api.EditKind(i % 3)}, n)...)
	}
	return l
}

// TestEditsOfManyLines: 10.2, up to 2000 lines on both sides; with one more on one of them, or on both, only the front is kept.
func TestEditsOfManyLines(t *testing.T) {
	for _, c := range []struct {
		name, a, b string
		want       []api.EditKind
	}{
		{"2000 and 2000", numbered(0, 2000), "new\n" + numbered(0, 1999), kinds(0, 0, 1, 1999, 1)},
		{"2000 and 2000, without a last end", numbered(0, 1999) + "x", "new\n" + numbered(0, 1998) + "x", kinds(0, 0, 1, 1998, 1, 0, 1)},
		{"2001 and 2000", numbered(0, 2001), "new\n" + numbered(0, 1999), kinds(0, 2001, 2000)},
		{"2000 and 2001", numbered(0, 2000), "new\n" + numbered(0, 2000), kinds(0, 2000, 2001)},
		{"2001 and 2001", numbered(0, 2001), "new\n" + numbered(0, 2000), kinds(0, 2001, 2001)},
		{"2001 without a last end, and 2000", numbered(0, 2000) + "x", "new\n" + numbered(0, 1999), kinds(0, 2001, 2000)},
		{"2001 and 1", numbered(0, 2001), "2000\n", kinds(0, 2001, 1)},
		{"1 and 2001", "2000\n", numbered(0, 2001), kinds(0, 1, 2001)},
		{"2000 and 1", numbered(1, 2001), "2000\n", kinds(0, 1999, 0, 1)},
		{"1 and 2000", "2000\n", numbered(1, 2001), kinds(0, 0, 1999, 1)},
		{"2001 and none", numbered(0, 2001), "", kinds(0, 2001)},
		{"none and 2001", "", numbered(0, 2001), kinds(0, 0, 2001)},
		{"2001 that are the same", numbered(0, 2001), numbered(0, 2001), kinds(2001)},
		{"2001 and its front", numbered(0, 2001), numbered(0, 2000), kinds(2000, 1)},
		{"a front and 2001", numbered(0, 2000), numbered(0, 2001), kinds(2000, 0, 1)},
		{"a front, and the rest in common", numbered(0, 2001), numbered(0, 3) + "x\n" + numbered(4, 2001), kinds(3, 1998, 1998)},
		{"the same with 2000", numbered(0, 2000), numbered(0, 3) + "x\n" + numbered(4, 2000), kinds(3, 1, 1, 1996)},
		{"2001 ends and 2000", strings.Repeat("\n", 2001), strings.Repeat("\n", 2000), kinds(2000, 1)},
		{"2000 and 2000 that share nothing", numbered(0, 2000), numbered(2000, 4000), kinds(0, 2000, 2000)},
		{"50000 and 60000", numbered(0, 50000), "0\n" + numbered(2, 60000), kinds(1, 49999, 59998)},
	} {
		l := diff.Edits([]byte(c.a), []byte(c.b))
		if !slices.Equal(kindsOf(l), c.want) {
			t.Errorf("%s: %d edits, not %d, or others", c.name, len(l), len(c.want))
		}
		bySides(t, []byte(c.a), []byte(c.b), l)
	}
}
