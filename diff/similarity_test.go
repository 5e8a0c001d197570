package diff_test

import (
	"strings"
	"testing"

	"gitlike/diff"
)

// similar wants Similarity to tell that, both ways round.
func similar(t *testing.T, a, b string, want int) {
	t.Helper()
	got, back := diff.Similarity([]byte(a), []byte(b)), diff.Similarity([]byte(b), []byte(a))
	if got != want || back != want {
		t.Errorf("Similarity of %s and %s: %d and %d, not %d", brief(a), brief(b), got, back, want)
	}
}

// TestSimilarity: 10.5, texts of no bytes; lines in another order, that are there several times, with and without their ends; what is behind the point.
func TestSimilarity(t *testing.T) {
	for _, c := range []struct {
		a, b string
		want int
	}{
		{"", "", 100}, {"", "a", 0}, {"", "\n", 0}, {"", strings.Repeat("a\n", 1000), 0},
		{"a", "a", 100}, {"\n", "\n", 100}, {"a\nb\n", "a\nb\n", 100}, {"a\nb", "a\nb", 100},
		{"a", "b", 0}, {"a\nb\n", "x\ny\n", 0},
		// A line without its end is another one.
		{"a", "a\n", 0}, {"a\nb", "b\na", 0}, {"a\nb", "a\nb\n", 57}, // 200*2/7
		{"a\na", "a\n", 80}, {"a\na", "a", 50},
		// In another order.
		{"a\nb\nc\n", "c\nb\na\n", 100}, {"a\nb\nc\n", "c\nx\na\n", 66}, {"\na\n", "a\n\n", 100},
		// Several times: as often as it is in both.
		{"a\na\nb\n", "a\nb\n", 80}, {"a\na\na\n", "a\n", 50}, {"a\na\n", "a\nb\n", 50}, {"a\na\nb\nb\nb\n", "a\na\na\nb\n", 66}, {strings.Repeat("\n", 99), "\n", 2}, {strings.Repeat("\n", 299), "\n", 0},
		// By bytes, not by lines.
		{"long line\na\n", "long line\nb\n", 83}, {"long line\na\n", "other line\na\n", 16}, {"a\n" + strings.Repeat("x", 98), "a\n" + strings.Repeat("y", 98), 2},
		// Nothing is rounded up.
		{strings.Repeat("a\n", 100), strings.Repeat("a\n", 100) + "b", 99}, {strings.Repeat("a\n", 9999), strings.Repeat("a\n", 9999) + "b\n", 99}, {"a\n", "a\n" + strings.Repeat("x", 396), 1}, {"a\n", "a\n" + strings.Repeat("x", 397), 0},
		{"a\nb\n", "a\nbb", 50}, {"a\nb\nc\n", "a\n", 50}, {"a\nb\nc\n", "a\nb\n", 80}, {"a\r\nb\n", "a\nb\n", 44},
	} {
		similar(t, c.a, c.b, c.want)
	}
}

// TestSimilarityOfMuch: P1, more lines than Edits compares, and more bytes than a blob has.
func TestSimilarityOfMuch(t *testing.T) {
	similar(t, numbered(0, 100000), numbered(0, 100000), 100)
	similar(t, numbered(100000, 200000), numbered(150000, 250000), 50)
	similar(t, strings.Repeat("\n", 1000000), strings.Repeat("\n", 500000), 66)
	similar(t, strings.Repeat("x", 5000000), strings.Repeat("x", 5000001), 0)
}
