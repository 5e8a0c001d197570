package merge_test

import (
	"strings"
	"testing"

	"gitlike/merge"
)

// TestTexts: 11.1, of each piece what becomes of it, in one piece and in several, at the first line and at the last one.
func TestTexts(t *testing.T) {
	for _, c := range []struct{ name, base, ours, theirs, want string }{
		{"nothing", "", "", "", ""},
		{"the same", "abc", "abc", "abc", "abc"},
		// One side alone.
		{"the first line", "abc", "xbc", "abc", "xbc"},
		{"one in the middle", "abc", "axc", "abc", "axc"},
		{"the last line", "abc", "abx", "abc", "abx"},
		{"all of them", "abc", "xyz", "abc", "xyz"},
		{"inserted at the front", "abc", "xabc", "abc", "xabc"},
		{"inserted in the middle", "abc", "abxyc", "abc", "abxyc"},
		{"inserted at the end", "abc", "abcx", "abc", "abcx"},
		{"dropped at the front", "abc", "bc", "abc", "bc"},
		{"dropped in the middle", "abc", "ac", "abc", "ac"},
		{"dropped at the end", "abc", "ab", "abc", "ab"},
		{"all dropped", "abc", "", "abc", ""},
		{"all inserted", "", "abc", "", "abc"},
		{"several places", "abcdefg", "xbcydefgz", "abcdefg", "xbcydefgz"},
		{"another order", "abcd", "bdca", "abcd", "bdca"},
		// Both alike.
		{"changed alike", "abc", "axc", "axc", "axc"},
		{"all changed alike", "abc", "xyz", "xyz", "xyz"},
		{"dropped alike", "abc", "ac", "ac", "ac"},
		{"all dropped alike", "abc", "", "", ""},
		{"inserted alike", "abc", "abcx", "abcx", "abcx"},
		{"all inserted alike", "", "x", "x", "x"},
		{"alike, and one side elsewhere", "abcde", "xbcde", "xbcdy", "xbcdy"},
		// Both, in different pieces.
		{"the first line and the last one", "abcde", "xbcde", "abcdy", "xbcdy"},
		{"with one firm line between", "abc", "xbc", "aby", "xby"},
		{"inserted about one firm line", "a", "xa", "ay", "xay"},
		{"inserted and dropped, with one firm line between", "abc", "bc", "abcy", "bcy"},
		{"several pieces, by turns", "abcdefg", "xbcdyfg", "abzdefw", "xbzdyfw"},
		{"one inserts what the other one has elsewhere", "abc", "abca", "abc", "abca"},
		// Both, otherwise, in one piece.
		{"changed otherwise", "abc", "axc", "ayc", "a«x‖y»c"},
		{"the first line otherwise", "abc", "xbc", "ybc", "«x‖y»bc"},
		{"the last line otherwise", "abc", "abx", "aby", "ab«x‖y»"},
		{"all otherwise", "abc", "x", "yz", "«x‖yz»"},
		{"inserted otherwise", "", "x", "y", "«x‖y»"},
		{"inserted otherwise at the front", "a", "xa", "ya", "«x‖y»a"},
		{"inserted otherwise at the end", "a", "ax", "ay", "a«x‖y»"},
		{"one inserts more", "ab", "axb", "axyb", "a«x‖xy»b"},
		{"dropped and changed", "abc", "ac", "axc", "a«‖x»c"},
		{"all dropped and one changed", "abc", "", "axc", "«‖axc»"},
		{"dropped and inserted beside it", "abc", "ac", "axbc", "a«‖xb»c"},
		{"changed next to each other", "abcd", "axcd", "abyd", "a«xc‖by»d"},
		{"dropped next to each other", "abcd", "acd", "abd", "a«c‖b»d"},
		{"both changed more than one line, and one of these alike", "abcd", "axyd", "axzd", "a«xy‖xz»d"},
		// In several pieces.
		{"two conflicts", "abc", "xby", "zbw", "«x‖z»b«y‖w»"},
		{"three conflicts", "abcde", "1b2d3", "4b5d6", "«1‖4»b«2‖5»d«3‖6»"},
		{"a conflict, and one side elsewhere", "abcd", "xbcy", "zbcd", "«x‖z»bcy"},
		{"a conflict, and both alike elsewhere", "abc", "xby", "zby", "«x‖z»by"},
		{"conflict, ours, theirs, alike", "abcdefg", "1b2d3f4", "5b6dcf4", "«1‖5»b«2‖6»d«3‖c»f4"},
	} {
		t.Run(c.name, func(t *testing.T) { texts(t, each(c.base), each(c.ours), each(c.theirs), each(c.want)) })
	}
}

// TestFirmLines: 11.1, lines of base that both keep, as Edits tells it: not those that one alone keeps, nor those that are there again.
func TestFirmLines(t *testing.T) {
	for _, c := range []struct{ base, ours, theirs, want string }{
		// Of ours, b and d are kept.
		{"abcd", "bdca", "abxd", "b«‖x»dca"},
		{"abcd", "bdca", "axcd", "«b‖axc»dca"},
		// Each keeps lines, but no line both.
		{"ab", "a", "b", "«a‖b»"},
		{"abcd", "ab", "cd", "«ab‖cd»"},
		// Of lines that are the same the first one that can be is kept.
		{"aaa", "aa", "aaa", "aa"},
		{"aaa", "aa", "aaax", "aa«‖ax»"},
		{"aa", "aaa", "aax", "aa«a‖x»"},
		{"aba", "ba", "ab", "b"},
		{"aXbXc", "aXbXd", "eXbXc", "eXbXd"},
		{"XaX", "XX", "XaXX", "XXX"},
	} {
		texts(t, each(c.base), each(c.ours), each(c.theirs), each(c.want))
	}
}

// TestTextsWithoutEnds: 11.1, last lines without an end: in a conflict one is added, else the text ends as the side that is taken.
func TestTextsWithoutEnds(t *testing.T) {
	for _, c := range []struct{ base, ours, theirs, want string }{
		{"a", "a", "a", "a"},
		{"a\nb", "a\nb", "a\nb", "a\nb"},
		// On one side.
		{"a\n", "a", "a\n", "a"},
		{"a", "a\n", "a", "a\n"},
		{"a\nb\n", "a\nb", "a\nb\n", "a\nb"},
		{"a\nb\nc", "x\nb\nc", "a\nb\nc", "x\nb\nc"},
		{"a\nb\nc", "x\nb\nc", "a\nb\nc\n", "x\nb\nc\n"},
		{"a\nb\nc\n", "x\nb\nc\n", "a\nb\nc", "x\nb\nc"},
		{"a\nb\nc", "a\nb", "a\nb\nc", "a\nb"},
		{"a\nb\nc", "a\nb\n", "a\nb\nc", "a\nb\n"},
		{"", "a", "", "a"},
		// On both: a line that loses its end is another one.
		{"a\n", "a", "a", "a"},
		{"a\nb\nc\n", "x\nb\nc", "a\nb\nc", "x\nb\nc"},
		{"a\nb\n", "x\nb", "a\nb", "«x\nb\n‖a\nb\n»"},
		{"a\nb", "a\nb\nc", "a\nb\nc", "a\nb\nc"},
		{"", "a", "a", "a"},
		// In a conflict: of one, of the other, of both.
		{"a", "b", "c", "«b\n‖c\n»"},
		{"a", "b\n", "c", "«b\n‖c\n»"},
		{"a\n", "b", "c\n", "«b\n‖c\n»"},
		{"a", "b", "", "«b\n‖»"},
		{"a\n", "a\nb", "a\nc", "a\n«b\n‖c\n»"},
		{"a", "a\n", "b", "«a\n‖b\n»"},
		{"a\nb", "a\nb\n", "a\nb\nc", "a\n«b\n‖b\nc\n»"},
		{"a\nb\n", "a\nb", "a\nb\nc\n", "a\n«b\n‖b\nc\n»"},
		{"a\n", "a", "x\n", "«a\n‖x\n»"},
		{"", "a", "a\n", "«a\n‖a\n»"},
		{"b", "a", "a\n", "«a\n‖a\n»"},
		// In a conflict ahead of the last piece there is nothing to add.
		{"a\nb\nc", "x\nb\nc", "y\nb\nc", "«x\n‖y\n»b\nc"},
		{"a\nb\nc", "x\nb\nd", "y\nb\nc", "«x\n‖y\n»b\nd"},
		// Ends of other kinds are none.
		{"a\r", "b\r", "c\r", "«b\r\n‖c\r\n»"},
		{"a\r\n", "b\r\n", "c\r\n", "«b\r\n‖c\r\n»"},
		{"\x00", "\xff", "\xfe\x00", "«\xff\n‖\xfe\x00\n»"},
	} {
		texts(t, c.base, c.ours, c.theirs, c.want)
	}
}

// TestTextsOfEmptyLines: 11.1, lines of nothing but an end are lines.
func TestTextsOfEmptyLines(t *testing.T) {
	for _, c := range []struct{ base, ours, theirs, want string }{
		{"\n", "\n", "\n", "\n"},
		{"\n", "\n\n", "\n", "\n\n"},
		{"\n\n", "\n", "\n\n", "\n"},
		{"\n", "", "\n", ""},
		{"\n", "", "\n\n", "«‖\n\n»"},
		{"\n\n", "\n", "\n\n\n", "\n«‖\n\n»"},
		{"a\n\nb\n", "x\n\nb\n", "a\n\ny\n", "x\n\ny\n"},
		{"", "\n", "\n\n", "«\n‖\n\n»"},
	} {
		texts(t, c.base, c.ours, c.theirs, c.want)
	}
}

// TestConflictsNames: 11.1, a and b stand in a conflict's lines as they are, and nowhere else.
func TestConflictsNames(t *testing.T) {
	for _, name := range []string{"", " ", "ours", "a b", "\t", "x\ny", "x\n", "\x00\xff", "=======", "$1", strings.Repeat("long", 10000)} {
		for _, other := range []string{"", "theirs", name} {
			got, n := merge.Texts([]byte("a\n"), []byte("b\n"), []byte("c\n"), name, other)
			want := "<<<<<<< " + name + "\nb\n=======\nc\n>>>>>>> " + other + "\n"
			if string(got) != want || n != 1 {
				t.Errorf("%s, %s: %s, %d", brief(name), brief(other), brief(string(got)), n)
			}
			if got, n := merge.Texts([]byte("a\nb\nc\n"), []byte("x\nb\nc\n"), []byte("a\nb\ny\n"), name, other); string(got) != "x\nb\ny\n" || n != 0 {
				t.Errorf("%s, %s, without a conflict: %s, %d", brief(name), brief(other), brief(string(got)), n)
			}
		}
	}
}

// TestTextsLikeConflicts: 11.1, lines that look as if they were of a conflict are lines, and not counted.
func TestTextsLikeConflicts(t *testing.T) {
	before := "<<<<<<< A\nx\n=======\ny\n>>>>>>> B\n"
	texts(t, before, before, before, before)
	texts(t, before, before+"z\n", "w\n"+before, "w\n"+before+"z\n")
	texts(t, before+"a\n", before+"b\n", before+"c\n", before+"«b\n‖c\n»")
	texts(t, "a\n", "=======\n", ">>>>>>> B\n", "«=======\n‖>>>>>>> B\n»")
}

// TestTextsOfManyLines: 11.1 and 10.2, of more than 2000 lines only the front is firm.
func TestTextsOfManyLines(t *testing.T) {
	const most = 2000
	for _, n := range []int{most, most + 1, 3 * most} {
		base, front, back := numbered(0, n), numbered(0, 3), numbered(n-3, n)
		first, last := "first\n"+numbered(1, n), numbered(0, n-1)+"last\n"
		want := "first\n" + numbered(1, n-1) + "last\n"
		if n > most {
			want = "«" + first + "‖" + last + "»"
		}
		texts(t, base, base, base, base)
		texts(t, base, first, base, first)
		texts(t, base, last, base, last)
		texts(t, base, first, first, first)
		texts(t, base, first, last, want)
		// What both begin with is firm all the same.
		ours, theirs := front+"ours\n"+numbered(4, n), numbered(0, 5)+"theirs\n"+numbered(6, n)
		want = front + "ours\n4\ntheirs\n" + numbered(6, n)
		if n > most {
			want = front + "«" + ours[len(front):] + "‖" + theirs[len(front):] + "»"
		}
		texts(t, base, ours, theirs, want)
		texts(t, base, base+"x\n", base+"y\n", base+"«x\n‖y\n»")
		texts(t, base, "", back, "«‖"+back+"»")
	}
	// One side alone has more than 2000 lines: of that one the front is kept, of the other one all that can be.
	base, long := numbered(0, most), numbered(0, most)+"last\n"
	texts(t, base, long, "first\n"+numbered(1, most), "first\n"+numbered(1, most)+"last\n")
	texts(t, base, "x\n"+long, base, "x\n"+long)
	texts(t, base, "x\n"+base, base+"y\n", "«x\n"+base+"‖"+base+"y\n»")
	texts(t, numbered(0, 10), "x\n"+numbered(0, 2100), numbered(0, 9)+"y\n", "«x\n"+numbered(0, 2100)+"‖"+numbered(0, 9)+"y\n»")
	texts(t, numbered(0, 10), numbered(0, 2100), "y\n"+numbered(1, 10), "y\n"+numbered(1, 2100))
}

// TestTextsOfMuch: P1, long lines, many lines, many pieces.
func TestTextsOfMuch(t *testing.T) {
	long := strings.Repeat("x", 1<<20)
	texts(t, long, long+"\n", long, long+"\n")
	texts(t, long, long+"a", long+"b", "«"+long+"a\n‖"+long+"b\n»")
	ends := strings.Repeat("\n", 300000)
	texts(t, ends, ends+"a\n", ends, ends+"a\n")
	texts(t, ends, ends+"a\n", ends+"b\n", ends+"«a\n‖b\n»")
	var base, ours, theirs, want strings.Builder
	for i := range 1000 {
		line := numbered(i, i+1)
		base.WriteString("old " + line + line)
		ours.WriteString("ours " + line + line)
		theirs.WriteString("theirs " + line + line)
		want.WriteString("«ours " + line + "‖theirs " + line + "»" + line)
	}
	texts(t, base.String(), ours.String(), theirs.String(), want.String())
}
