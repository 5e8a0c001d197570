package diff

import (
	"cmp"
	"slices"
)

// whole is the similarity of texts that are the same.
const whole = 100

// numbering gives lines numbers, the same to the same: numbers are compared at once, whatever the lines are.
type numbering map[string]int

// lines is the numbers of lines.
func (n numbering) lines(lines []string) []int {
	l := make([]int, len(lines))
	for i, line := range lines {
		number, there := n[line]
		if !there {
			number = len(n)
			n[line] = number
		}
		l[i] = number
	}
	return l
}

// known is a line: its number, and how many bytes it has.
type known struct{ number, bytes int }

// text is a text that is to be compared: its lines, by their numbers.
type text struct {
	lines []known
	bytes int
}

// text makes one of bytes.
func (n numbering) text(b []byte) text {
	lines := Lines(b)
	l := make([]known, len(lines))
	for i, number := range n.lines(lines) {
		l[i] = known{number, len(lines[i])}
	}
	slices.SortFunc(l, byNumber)
	return text{l, len(b)}
}

func byNumber(x, y known) int { return cmp.Compare(x.number, y.number) }

// likeness is the similarity of two texts, whose lines have numbers of one numbering.
func likeness(a, b text) int {
	if a.bytes+b.bytes == 0 {
		return whole
	}
	return 2 * whole * bytesInBoth(a.lines, b.lines) / (a.bytes + b.bytes)
}

// bytesInBoth tells how many bytes the lines have that are in both, each as often as it is in both.
func bytesInBoth(x, y []known) int {
	sum := 0
	for len(x) > 0 && len(y) > 0 {
		switch c := byNumber(x[0], y[0]); {
		case c < 0:
			x = x[1:]
		case c > 0:
			y = y[1:]
		default:
			sum += x[0].bytes
			x, y = x[1:], y[1:]
		}
	}
	return sum
}
