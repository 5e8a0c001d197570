package diff_test

import (
	"fmt"
	"math/rand"
	"strings"
	"testing"

	"gitlike/api"
	"gitlike/diff"
)

// TestApply: 10.4, hunks that Patch does not write, but that are right: other numbers of kept lines, another order of dropped and inserted ones, hunks that touch.
func TestApply(t *testing.T) {
	a := string(each("abcdef"))
	for _, c := range []struct{ a, patch, want string }{
		{"", "", ""},
		{a, "", a},
		{"a\nb", "", "a\nb"},
		{a, "@@ -1,6 +1,6 @@\n a\n b\n-c\n+x\n d\n e\n f\n", string(each("abxdef"))},
		{a, "@@ -3,1 +3,1 @@\n+x\n-c\n", string(each("abxdef"))},
		{a, "@@ -2,4 +2,3 @@\n b\n-c\n-d\n+x\n e\n", string(each("abxef"))},
		{a, "@@ -3,2 +3,2 @@\n-c\n+x\n-d\n+y\n", string(each("abxyef"))},
		{a, "@@ -3,2 +3,3 @@\n+x\n+y\n-c\n+z\n-d\n", string(each("abxyzef"))},
		// What is dropped and inserted again is as it was.
		{a, "@@ -3,1 +3,1 @@\n-c\n+c\n", a},
		// Hunks that touch.
		{a, "@@ -1,1 +0,0 @@\n-a\n@@ -2,1 +0,0 @@\n-b\n@@ -3,1 +1,1 @@\n-c\n+x\n", string(each("xdef"))},
		{a, "@@ -0,0 +1,1 @@\n+x\n@@ -0,0 +2,1 @@\n+y\n@@ -1,1 +2,0 @@\n-a\n", string(each("xybcdef"))},
		{a, "@@ -6,1 +6,2 @@\n f\n+x\n@@ -6,0 +8,1 @@\n+y\n", string(each("abcdefxy"))},
		{a, "@@ -1,6 +0,0 @@\n-a\n-b\n-c\n-d\n-e\n-f\n", ""},
		{a, "@@ -1,2 +1,3 @@\n a\n+x\n b\n@@ -5,2 +6,1 @@\n-e\n f\n", string(each("axbcdf"))},
		// Last lines without ends.
		{"a\nb", "@@ -2,1 +2,1 @@\n-b\n" + noEnd + "+b\n", "a\nb\n"},
		{"a\nb", "@@ -2,1 +2,1 @@\n+b\n-b\n" + noEnd, "a\nb\n"},
		{"a\nb\n", "@@ -2,1 +2,1 @@\n+b\n" + noEnd + "-b\n", "a\nb"},
		{"a\nb", "@@ -1,2 +1,1 @@\n-a\n b\n" + noEnd, "b"},
		{"a\nb", "@@ -1,1 +0,0 @@\n-a\n", "b"},
		{"a\nb", "@@ -2,1 +1,0 @@\n-b\n" + noEnd, "a\n"},
		{"", "@@ -0,0 +1,2 @@\n+a\n+b\n" + noEnd, "a\nb"},
		{"a\n", "@@ -1,0 +2,1 @@\n+b\n" + noEnd, "a\nb"},
		// Lines that look like something else.
		{"\n\n", "@@ -1,2 +1,3 @@\n \n+\n \n", "\n\n\n"},
		{"@@ -1,1 +1,1 @@\n", "@@ -1,1 +1,1 @@\n-@@ -1,1 +1,1 @@\n+" + noEnd, noEnd},
		{"", "@@ -0,0 +1,1 @@\n+" + noEnd + noEnd, strings.TrimSuffix(noEnd, "\n")},
	} {
		apply(t, c.a, c.patch, c.want)
	}
}

// TestApplyBothWays: 10.4, what Patch writes with each context makes b of a, and that of the other way round a of b.
func TestApplyBothWays(t *testing.T) {
	texts := []string{
		"", "\n", "a", "a\n", "a\nb", "a\nb\n", "\n\n\n", string(each("abcdefghijklmnop")), string(each("abxdefghijklymnop")),
		string(each("bcdefghijklmno")) + "p", "x" + string(each("abcdefghijklmnop")), string(each("ponmlkjihgfedcba")), numbered(1, 2001), numbered(3, 2006), noEnd, "@@ -1,1 +1,1 @@\n",
	}
	for _, a := range texts {
		for _, b := range texts {
			for _, context := range []int{-1, 0, 1, 2, 3, 4, 1000, 1001} {
				apply(t, a, string(diff.Patch([]byte(a), []byte(b), context)), b)
			}
		}
	}
}

// right is a patch that fits the text a to h, and in which all that can be is there.
const (
	rightFor = "a\nb\nc\nd\ne\nf\ng\nh"
	right    = "@@ -1,3 +1,2 @@\n a\n-b\n c\n@@ -7,2 +6,3 @@\n g\n-h\n\\ No newline at end of file\n+h\n+i\n"
)

// TestPatchNumbers: 10.4, numbers that are spelt or counted otherwise.
func TestPatchNumbers(t *testing.T) {
	apply(t, rightFor, right, "a\nc\nd\ne\nf\ng\nh\ni\n")
	for _, turn := range [][2]string{
		// A 0 ahead, no digit, a sign, other digits.
		{"-1,3", "-01,3"}, {"-1,3", "-1,03"}, {"+1,2", "+01,2"}, {"+1,2", "+1,02"}, {"-7,2", "-007,2"}, {"-1,3", "-0000000001,3"},
		{"-1,3", "-,3"}, {"-1,3", "-1,"}, {"+1,2", "+,2"}, {"+1,2", "+1,"}, {"-1,3", "-+1,3"}, {"-1,3", "-1,+3"}, {"-1,3", "--1,3"}, {"-1,3", "- 1,3"}, {"-1,3", "-1 ,3"},
		{"-1,3", "-0x1,3"}, {"-1,3", "-1.0,3"}, {"-1,3", "-1_,3"}, {"-1,3", "-\u0661,3"}, {"-1,3", "-1,3,"}, {"-1,3", "-1"}, {"+1,2", "+1"},
		// Too few lines, too many.
		{"-1,3", "-1,2"}, {"-1,3", "-1,4"}, {"-1,3", "-1,0"}, {"+1,2", "+1,1"}, {"+1,2", "+1,3"}, {"+1,2", "+1,0"}, {"-7,2", "-7,1"}, {"-7,2", "-7,3"}, {"+6,3", "+6,2"}, {"+6,3", "+6,4"},
		{" c\n", ""}, {"-b\n", ""}, {"+i\n", ""}, {" c\n", " c\n c\n"}, {"+i\n", "+i\n+i\n"}, {"+i\n", "+i\n-i\n"},
		// T that is not where it is.
		{"+1,2", "+0,2"}, {"+1,2", "+2,2"}, {"+6,3", "+5,3"}, {"+6,3", "+7,3"}, {"+6,3", "+8,3"},
		// The first line that there is none of; others than T goes with.
		{"-1,3 +1,2", "-0,3 +0,2"}, {"-1,3", "-0,3"}, {"-1,3", "-2,3"}, {"-7,2", "-6,2"}, {"-7,2", "-8,2"},
		// Ten digits, and more.
		{"-1,3 +1,2", "-1000000000,3 +1000000000,2"}, {"-1,3", "-1,1000000000"}, {"-7,2 +6,3", "-9223372036854775807,2 +9223372036854775806,3"}, {"-7,2 +6,3", "-9223372036854775808,2 +9223372036854775807,3"},
		{"-1,3 +1,2", "--9223372036854775808,3 +-9223372036854775808,2"}, {"-1,3 +1,2", "--9223372036854775807,3 +-9223372036854775807,2"}, {"-1,3 +1,2", "-4294967297,3 +1,2"}, {"-7,2 +6,3", "-4294967295,2 +4294967294,3"},
		{"-7,2", "-18446744073709551623,2"}, {"-7,2", "-" + strings.Repeat("9", 500) + ",2"}, {"-7,2", "-" + strings.Repeat("0", 500) + "7,2"},
	} {
		bad := strings.Replace(right, turn[0], turn[1], 1)
		if bad == right {
			t.Errorf("%q is not in the patch", turn[0])
		}
		refused(t, rightFor, bad, api.ErrPatch)
		refused(t, "", bad, api.ErrPatch)
	}
	// Where there is no line, the number is that of the one ahead.
	for _, c := range []struct {
		patch string
		want  api.Errno
	}{
		{"@@ -0,0 +1,1 @@\n+x\n", api.OK}, {"@@ -00,0 +1,1 @@\n+x\n", api.ErrPatch}, {"@@ -0,00 +1,1 @@\n+x\n", api.ErrPatch}, {"@@ -1,0 +1,1 @@\n+x\n", api.ErrPatch}, {"@@ -0,0 +0,1 @@\n+x\n", api.ErrPatch},
		{"@@ -8,0 +9,1 @@\n+x\n", api.ErrApply}, {"@@ -3,1 +2,0 @@\n-c\n", api.OK}, {"@@ -3,1 +3,0 @@\n-c\n", api.ErrPatch}, {"@@ -3,1 +1,0 @@\n-c\n", api.ErrPatch}, {"@@ -0,1 +0,0 @@\n-c\n", api.ErrPatch},
		// Nine digits are a number; T must have no more.
		{"@@ -999999998,0 +999999999,1 @@\n+x\n", api.ErrApply}, {"@@ -999999999,0 +1000000000,1 @@\n+x\n", api.ErrPatch}, {"@@ -999999999,1 +999999998,0 @@\n-x\n", api.ErrApply}, {"@@ -1000000000,1 +999999999,0 @@\n-x\n", api.ErrPatch},
		{"@@ -999999999,1 +999999999,1 @@\n-x\n+y\n", api.ErrApply}, {"@@ -0,0 +1,1 @@\n+x\n@@ -999999999,1 +1000000000,1 @@\n-x\n+y\n", api.ErrPatch},
		{"@@ -0,0 +1,1 @@\n+x\n@@ -999999999,1 +999999999,0 @@\n-x\n", api.ErrApply},
	} {
		if _, err := diff.Apply([]byte(rightFor), []byte(c.patch)); api.Tell(err) != c.want {
			t.Errorf("%q: %v, not %v", c.patch, err, c.want)
		}
	}
}

// TestPatchForm: 10.4, bytes that are no hunks.
func TestPatchForm(t *testing.T) {
	for _, turn := range [][2]string{
		// The head.
		{"@@ -1", "@@-1"}, {"@@ -1", "@@  -1"}, {"@@ -1", " @@ -1"}, {"@@ -1", "@ -1"}, {"@@ -1", "@@@ -1"}, {"@@ -1", "@@ +1"}, {"@@ -1", "@@ 1"}, {" +1", " -1"}, {" +1", "+1"}, {" +1", "\t+1"}, {" +1", " 1"},
		{"2 @@", "2@@"}, {"2 @@", "2  @@"}, {"2 @@", "2 @"}, {"2 @@", "2"}, {"2 @@\n", "2 @@ \n"}, {"2 @@\n", "2 @@\r\n"}, {"2 @@\n", "2 @@ a\n"}, {"2 @@\n", "2 @@"}, {"2 @@\n", "2 @@\n\n"},
		// Lines that no sign begins.
		{" c\n", "c\n"}, {" c\n", "\tc\n"}, {" c\n", "*c\n"}, {" c\n", "\n"}, {" c\n", "@c\n"}, {" c\n", "\\c\n"}, {" c\n", "\x00c\n"}, {" c\n", " c\nc\n"}, {" c\n", " c\n\n"}, {" c\n", " c\n@\n"},
		// An end that is missing, or one that stands where none can.
		{"+i\n", "+i"}, {"file\n+", "file+"}, {"\\ No", "No"}, {"\\ No", "\\ no"}, {"\\ No", "\\  No"}, {"file\n", "file \n"}, {"file\n", "file\r\n"}, {"file\n", "a file\n"}, {"\\ No newline at end of file\n", "\\\n"},
		{"+h\n", noEnd + "+h\n"}, {" a\n", noEnd + " a\n"}, {"@@ -1", noEnd + "@@ -1"}, {"-h\n", "-\n"}, {"+i\n", "+\n" + noEnd}, {"+i\n", "+" + noEnd[:len(noEnd)-1]}, {"+i\n", "+i\n" + noEnd[:len(noEnd)-1]},
		// More bytes ahead and behind.
		{"@@ -1", "\n@@ -1"}, {"@@ -1", "x\n@@ -1"}, {"@@ -1", " a\n@@ -1"}, {"@@ -1", "--- a\n+++ b\n@@ -1"}, {"+i\n", "+i\n\n"}, {"+i\n", "+i\nx"}, {"+i\n", "+i\n "}, {"+i\n", "+i\n+"}, {"+i\n", "+i\n@@"}, {"+i\n", "+i\n-- \n"}, {"+i\n", "+i\n\x00"},
		// A hunk without a line, or without a change.
		{"+i\n", "+i\n@@ -8,0 +8,0 @@\n"}, {"@@ -7", "@@ -4,1 +3,1 @@\n d\n@@ -7"}, {"@@ -7", "@@ -4,0 +3,0 @@\n@@ -7"}, {"@@ -1,3 +1,2 @@\n a\n-b\n c\n@@ -7,2 +6,3", "@@ -1,1 +1,1 @@\n a\n@@ -7,2 +7,3"},
	} {
		bad := strings.Replace(right, turn[0], turn[1], 1)
		if bad == right {
			t.Errorf("%q is not in the patch", turn[0])
		}
		refused(t, rightFor, bad, api.ErrPatch)
	}
	for _, bad := range []string{"\n", " ", "x", "a\n", "-a\n", "+a\n", noEnd, "@@\n", "@@ -1,1 +1,1 @@", "@@ -1,1 +1,1 @@\n", "@@ -", "@@ -,", "@@ -1", "@@ -1\n", "@@ -0,0 +0,0 @@\n", "@@ -1,1 +1,1 @@\n" + noEnd, "@@ -0,0 +1,1 @@\n+\n" + noEnd, "@@ -1,1 +0,0 @@\n-\n" + noEnd, "@@ -1,1 +1,2 @@\n \n" + noEnd + "+a\n", "@@ -0,0 +1,1 @@\n+", "@@ -0,0 +1,1 @@\n+a"} {
		refused(t, "", bad, api.ErrPatch)
		refused(t, "a", bad, api.ErrPatch)
	}
}

// TestHunkOrder: 10.4, hunks that begin ahead of where the one ahead ended.
func TestHunkOrder(t *testing.T) {
	a := string(each("abcdefgh"))
	for _, bad := range []string{
		"@@ -5,1 +4,0 @@\n-e\n@@ -1,1 +0,0 @@\n-a\n",
		"@@ -5,1 +4,0 @@\n-e\n@@ -1,1 +-1,0 @@\n-a\n",
		"@@ -1,2 +1,1 @@\n a\n-b\n@@ -2,1 +1,0 @@\n-b\n",
		"@@ -1,2 +1,1 @@\n-a\n b\n@@ -2,1 +1,1 @@\n-b\n+x\n",
		"@@ -1,2 +1,3 @@\n a\n+x\n b\n@@ -1,0 +3,1 @@\n+y\n",
		"@@ -1,1 +1,1 @@\n-a\n+x\n@@ -1,1 +1,1 @@\n-a\n+x\n",
		"@@ -2,0 +3,1 @@\n+x\n@@ -1,0 +3,1 @@\n+y\n",
		"@@ -1,3 +0,0 @@\n-a\n-b\n-c\n@@ -2,1 +-2,0 @@\n-b\n",
	} {
		refused(t, a, bad, api.ErrPatch)
	}
	apply(t, a, "@@ -1,2 +1,1 @@\n a\n-b\n@@ -3,1 +1,0 @@\n-c\n", string(each("adefgh")))
	apply(t, a, "@@ -1,2 +1,3 @@\n a\n+x\n b\n@@ -2,0 +4,1 @@\n+y\n", string(each("axbycdefgh")))
}

// TestApplyToOthers: 10.4, patches that are right, but do not fit; one that is not right is told first.
func TestApplyToOthers(t *testing.T) {
	for _, c := range []struct{ a, patch string }{
		// A line that is kept or dropped is another one, or is not there.
		{"", right}, {"a\n", right}, {"a\nb\nc\nd\ne\nf\ng\n", right}, {"b\na\nc\nd\ne\nf\ng\nh", right}, {"a\nb\nd\ne\nf\ng\nh", right}, {"x\nb\nc\nd\ne\nf\ng\nh", right}, {"a\nb\nc\nd\ne\nf\ng\nx", right},
		// Just so: with its end, without it, with no byte more.
		{rightFor + "\n", right}, {rightFor + "\r", right}, {rightFor + "\nj", right}, {"a\nb \nc\nd\ne\nf\ng\nh", right}, {"A\nb\nc\nd\ne\nf\ng\nh", right},
		{"a", "@@ -1,1 +0,0 @@\n-a\n"}, {"a\n", "@@ -1,1 +0,0 @@\n-a\n" + noEnd}, {"a", "@@ -1,1 +1,2 @@\n a\n+b\n"}, {"ab\n", "@@ -1,1 +0,0 @@\n-a\n" + noEnd},
		{"a\na\n", "@@ -1,2 +0,0 @@\n-a\n" + noEnd + "-a\n"},
		// Fewer lines than stand ahead.
		{"", "@@ -1,0 +2,1 @@\n+x\n"}, {"a\n", "@@ -2,0 +3,1 @@\n+x\n"}, {"a\nb", "@@ -3,0 +4,1 @@\n+x\n"}, {"a\n", "@@ -3,1 +2,0 @@\n-a\n"}, {"a\n", "@@ -1,1 +0,0 @@\n-a\n@@ -2,0 +2,1 @@\n+b\n"},
		// A line without an end that would not be the last one.
		{"a", "@@ -1,0 +2,1 @@\n+b\n"}, {"a", "@@ -1,1 +1,2 @@\n a\n" + noEnd + "+b\n"}, {"a\n", "@@ -0,0 +1,1 @@\n+b\n" + noEnd}, {"a\nb\n", "@@ -2,1 +2,1 @@\n-b\n+b\n" + noEnd + "@@ -2,0 +3,1 @@\n+c\n"},
		{"a\nb\n", "@@ -1,1 +1,1 @@\n-a\n+a\n" + noEnd}, {"", "@@ -0,0 +1,2 @@\n+a\n" + noEnd + "+b\n"}, {"", "@@ -0,0 +1,2 @@\n+a\n" + noEnd + "+b\n" + noEnd}, {"a\nb", "@@ -2,0 +3,1 @@\n+c\n" + noEnd},
	} {
		refused(t, c.a, c.patch, api.ErrApply)
		refused(t, c.a, c.patch+"\n", api.ErrPatch)
		refused(t, c.a, c.patch+"@@ -999,1 +1,0 @@\n-a\n", api.ErrPatch)
	}
}

// TestApplyMany: P1, many hunks, long lines, and bytes that are anything.
func TestApplyMany(t *testing.T) {
	const n = 100000
	var p, want strings.Builder
	for i := range n {
		fmt.Fprintf(&p, "@@ -%d,1 +%d,1 @@\n-%d\n+x\n", 2*i+1, 2*i+1, 2*i)
		fmt.Fprintf(&want, "x\n%d\n", 2*i+1)
	}
	apply(t, numbered(0, 2*n), p.String(), want.String())
	refused(t, numbered(0, 2*n-2), p.String(), api.ErrApply)
	refused(t, numbered(0, 2*n), p.String()+"+", api.ErrPatch)
	long := strings.Repeat("x", 1<<20)
	patch(t, long, long+"\n"+long, 3, "@@ -1,1 +1,2 @@\n+"+long+"\n "+long+"\n"+noEnd)
	refused(t, "", strings.Repeat("@@ -", 100000), api.ErrPatch)
	refused(t, "", strings.Repeat("@@ -0,0 +1,1 @@\n", 100000), api.ErrPatch)
	refused(t, "", strings.Repeat(noEnd, 100000), api.ErrPatch)
	lot := rand.New(rand.NewSource(1))
	for range 3000 {
		noise := make([]byte, lot.Intn(40))
		for i := range noise {
			noise[i] = "@@  --++01,\n\n\\a"[lot.Intn(15)]
		}
		if _, err := diff.Apply([]byte("a\n"), append([]byte("@@ -0,0 +1,1 @@\n+"), noise...)); err != nil && api.Tell(err) != api.ErrPatch && api.Tell(err) != api.ErrApply {
			t.Errorf("%q: %v", noise, err)
		}
	}
}
