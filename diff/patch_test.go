package diff_test

import (
	"fmt"
	"math"
	"strings"
	"testing"

	"gitlike/diff"
)

// noEnd is what stands behind a line without an end.
const noEnd = "\\ No newline at end of file\n"

// TestPatch: 10.3, changes at the first and at the last line, in the middle, of all; N or M 0; each with kept lines about it.
func TestPatch(t *testing.T) {
	for _, c := range []struct {
		a, b    string
		context int
		want    string
	}{
		{"", "", 3, ""},
		{"abc", "abc", 3, ""},
		{"a", "", 3, "@@ -1,1 +0,0 @@\n-a\n"},
		{"", "a", 3, "@@ -0,0 +1,1 @@\n+a\n"},
		{"", "abc", 0, "@@ -0,0 +1,3 @@\n+a\n+b\n+c\n"},
		{"a", "b", 3, "@@ -1,1 +1,1 @@\n-a\n+b\n"},
		// At the first line.
		{"abcde", "xbcde", 0, "@@ -1,1 +1,1 @@\n-a\n+x\n"},
		{"abcde", "xbcde", 1, "@@ -1,2 +1,2 @@\n-a\n+x\n b\n"},
		{"abcde", "bcde", 0, "@@ -1,1 +0,0 @@\n-a\n"},
		{"abcde", "bcde", 3, "@@ -1,4 +1,3 @@\n-a\n b\n c\n d\n"},
		{"abcde", "xabcde", 0, "@@ -0,0 +1,1 @@\n+x\n"},
		{"abcde", "xabcde", 1, "@@ -1,1 +1,2 @@\n+x\n a\n"},
		// At the last one.
		{"abcde", "abcdx", 0, "@@ -5,1 +5,1 @@\n-e\n+x\n"},
		{"abcde", "abcdx", 3, "@@ -2,4 +2,4 @@\n b\n c\n d\n-e\n+x\n"},
		{"abcde", "abcd", 0, "@@ -5,1 +4,0 @@\n-e\n"},
		{"abcde", "abcd", 1, "@@ -4,2 +4,1 @@\n d\n-e\n"},
		{"abcde", "abcdex", 0, "@@ -5,0 +6,1 @@\n+x\n"},
		{"abcde", "abcdex", 1, "@@ -5,1 +5,2 @@\n e\n+x\n"},
		// Between: N or M is 0 without kept lines alone.
		{"abcde", "abde", 0, "@@ -3,1 +2,0 @@\n-c\n"},
		{"abcde", "abde", 1, "@@ -2,3 +2,2 @@\n b\n-c\n d\n"},
		{"abcde", "abxcde", 0, "@@ -2,0 +3,1 @@\n+x\n"},
		{"abcde", "abxcde", 1000, "@@ -1,5 +1,6 @@\n a\n b\n+x\n c\n d\n e\n"},
		// What is dropped and inserted ahead moves T.
		{"abcdefgh", "xxabcdefh", 0, "@@ -0,0 +1,2 @@\n+x\n+x\n@@ -7,1 +8,0 @@\n-g\n"},
		{"abcdefgh", "cdefxgh", 0, "@@ -1,2 +0,0 @@\n-a\n-b\n@@ -6,0 +5,1 @@\n+x\n"},
		{"abcdefgh", "cdefxgh", 1, "@@ -1,3 +1,1 @@\n-a\n-b\n c\n@@ -6,2 +4,3 @@\n f\n+x\n g\n"},
		// The order of dropped and inserted lines is that of the edits.
		{"abcd", "bdca", 3, "@@ -1,4 +1,4 @@\n-a\n b\n-c\n d\n+c\n+a\n"},
	} {
		patch(t, string(each(c.a)), string(each(c.b)), c.context, c.want)
	}
}

// TestPatchWithoutEnds: 10.3, a last line without an end that is kept, dropped, inserted, on one side and on both; and lines that look like what a patch is made of.
func TestPatchWithoutEnds(t *testing.T) {
	for _, c := range []struct{ a, b, want string }{
		{"a", "a", ""},
		{"a", "", "@@ -1,1 +0,0 @@\n-a\n" + noEnd},
		{"", "a", "@@ -0,0 +1,1 @@\n+a\n" + noEnd},
		{"a", "a\n", "@@ -1,1 +1,1 @@\n-a\n" + noEnd + "+a\n"},
		{"a\n", "a", "@@ -1,1 +1,1 @@\n-a\n+a\n" + noEnd},
		{"a", "b", "@@ -1,1 +1,1 @@\n-a\n" + noEnd + "+b\n" + noEnd},
		{"a\nz", "b\nz", "@@ -1,2 +1,2 @@\n-a\n+b\n z\n" + noEnd},
		{"a\nb\nc\nd\nz", "x\nb\nc\nd\nz", "@@ -1,4 +1,4 @@\n-a\n+x\n b\n c\n d\n"},
		{"a\nz", "z", "@@ -1,2 +1,1 @@\n-a\n z\n" + noEnd},
		{"z", "a\nz", "@@ -1,1 +1,2 @@\n+a\n z\n" + noEnd},
		{"a\nb", "b\na", "@@ -1,2 +1,2 @@\n-a\n-b\n" + noEnd + "+b\n+a\n" + noEnd},
		{"x\ny", "y\nx\n", "@@ -1,2 +1,2 @@\n+y\n x\n-y\n" + noEnd},
		{"a\nx\ny\n", "x\ny\nz", "@@ -1,3 +1,3 @@\n-a\n x\n y\n+z\n" + noEnd},
		// The last line of b comes ahead of lines of a.
		{"a\nb\n", "a", "@@ -1,2 +1,1 @@\n-a\n-b\n+a\n" + noEnd},
		{"\n", "", "@@ -1,1 +0,0 @@\n-\n"},
		{"", "\n\n", "@@ -0,0 +1,2 @@\n+\n+\n"},
		{"-\n", "+\n", "@@ -1,1 +1,1 @@\n--\n++\n"},
		{"@@ -1,1 +1,1 @@\n", noEnd, "@@ -1,1 +1,1 @@\n-@@ -1,1 +1,1 @@\n+" + noEnd},
		{" \\", "\r\x00", "@@ -1,1 +1,1 @@\n- \\\n" + noEnd + "+\r\x00\n" + noEnd},
	} {
		patch(t, c.a, c.b, 3, c.want)
	}
}

// TestPatchContext: 10.3, two changes that are 2 * context kept lines apart are in one hunk, with one more in two; what is below 0 counts as 0.
func TestPatchContext(t *testing.T) {
	for _, context := range []int{math.MinInt, -1, 0, 1, 2, 3, 10, 500} {
		c := max(context, 0)
		between := numbered(1, 2*c+1)
		kept := ""
		for line := range strings.Lines(between) {
			kept += " " + line
		}
		patch(t, "a\n"+between+"b\n", between, context, fmt.Sprintf("@@ -1,%d +%d,%d @@\n-a\n%s-b\n", 2*c+2, min(c, 1), 2*c, kept))
		patch(t, between, "a\n"+between+"b\n", context, fmt.Sprintf("@@ -%d,%d +1,%d @@\n+a\n%s+b\n", min(c, 1), 2*c, 2*c+2, kept))

		between = numbered(1, 2*c+2)
		a := "a\n" + between + "b\n"
		got := string(diff.Patch([]byte(a), []byte(between), context))
		if strings.Count(got, "@@ -") != 2 || strings.Count(got, "\n ") != 2*c {
			t.Errorf("context %d, %d lines between: %s", context, 2*c+1, brief(got))
		}
		apply(t, a, got, between)
	}
	three := []string{string(each("abcdefghi")), string(each("Abcdefghi")), string(each("AbcdEfghi")), string(each("AbcdEfghI"))}
	patch(t, three[0], three[3], 1, "@@ -1,2 +1,2 @@\n-a\n+A\n b\n@@ -4,3 +4,3 @@\n d\n-e\n+E\n f\n@@ -8,2 +8,2 @@\n h\n-i\n+I\n")
	patch(t, three[0], three[3], 2, "@@ -1,9 +1,9 @@\n-a\n+A\n b\n c\n d\n-e\n+E\n f\n g\n h\n-i\n+I\n")
	patch(t, three[1], three[2], 0, "@@ -5,1 +5,1 @@\n-e\n+E\n")
}

// TestPatchGreatContext: 10.3, there are up to 1000 kept lines on each side of a change, and no more if more are asked for.
func TestPatchGreatContext(t *testing.T) {
	text := func(middle string) string { return numbered(1, 1200) + middle + numbered(1300, 2100) }
	for _, c := range []struct{ context, ahead, behind int }{{999, 999, 800}, {1000, 1000, 800}, {1001, 1000, 800}, {math.MaxInt, 1000, 800}, {700, 700, 700}} {
		a, b := text("a\n"), text("b\n")
		got := string(diff.Patch([]byte(a), []byte(b), c.context))
		head := fmt.Sprintf("@@ -%d,%d +%d,%d @@\n %d\n", 1200-c.ahead, c.ahead+1+c.behind, 1200-c.ahead, c.ahead+1+c.behind, 1200-c.ahead)
		if !strings.HasPrefix(got, head) || strings.Count(got, "\n ")+strings.Count(got, "\n-")+strings.Count(got, "\n+") != c.ahead+2+c.behind {
			t.Errorf("context %d: %s, not %q", c.context, brief(got), head)
		}
		apply(t, a, got, b)
	}
	// The changes are at both ends of all that is compared: they are in one hunk.
	a, b := "a\n"+numbered(1, 1999)+"b\n", "x\n"+numbered(1, 1999)+"y\n"
	for context, hunks := range map[int]int{998: 2, 999: 1, 1000: 1, 1001: 1} {
		got := string(diff.Patch([]byte(a), []byte(b), context))
		if strings.Count(got, "@@ -") != hunks {
			t.Errorf("context %d: %d hunks, not %d", context, strings.Count(got, "@@ -"), hunks)
		}
		apply(t, a, got, b)
	}
}

// TestPatchOfManyLines: 10.3, of more than 2000 lines the front alone is kept.
func TestPatchOfManyLines(t *testing.T) {
	a, b := numbered(1, 2002), numbered(1, 2000)+"x\n2001\n"
	patch(t, a, b, 1, "@@ -1999,3 +1999,3 @@\n 1999\n-2000\n-2001\n+x\n+2001\n")
	patch(t, b, a, 0, "@@ -2000,2 +2000,2 @@\n-x\n-2001\n+2000\n+2001\n")
	apply(t, numbered(1, 30000), string(diff.Patch([]byte(numbered(1, 30000)), []byte(numbered(2, 31000)), 3)), numbered(2, 31000))
	patch(t, numbered(1, 30000)+"x", numbered(1, 30000)+"x", 3, "")
}
