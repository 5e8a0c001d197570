package diff

import (
	"strconv"
	"strings"

	"gitlike/api"
)

const (
	signs    = " -+"                            // of lines that are kept, dropped, inserted: by their kinds
	noEnd    = "\\ No newline at end of file\n" // stands behind a line that has no end
	headSign = "@@ -"                           // with this a hunk begins, and no line in one
)

// hunk is changes, and kept lines about them.
type hunk struct {
	a, b  int // so many lines of each text stand ahead of it
	edits []api.Edit
}

// span is a hunk's edits, by their places: from the first one on, up to the end.
type span struct{ first, end int }

// cut takes the hunks out of edits.
func cut(edits []api.Edit, context int) []hunk {
	var l []hunk
	for _, s := range spans(edits, context) {
		a, b := count(edits[:s.first])
		l = append(l, hunk{a, b, edits[s.first:s.end]})
	}
	return l
}

// spans tells which edits are in hunks. What two changes have about them meets just where at most 2 * context lines are between them.
func spans(edits []api.Edit, context int) []span {
	var l []span
	for i, e := range edits {
		if e.Kind == api.Keep {
			continue
		}
		s := span{max(i-context, 0), min(i+context+1, len(edits))}
		if last := len(l) - 1; last >= 0 && s.first <= l[last].end {
			l[last].end = s.end
		} else {
			l = append(l, s)
		}
	}
	return l
}

// count tells how many lines of a, and of b, edits have.
func count(edits []api.Edit) (a, b int) {
	for _, e := range edits {
		if e.Kind != api.Insert {
			a++
		}
		if e.Kind != api.Drop {
			b++
		}
	}
	return a, b
}

// writeHunks writes a patch.
func writeHunks(l []hunk) []byte {
	var b strings.Builder
	for _, h := range l {
		b.WriteString(h.head())
		for _, e := range h.edits {
			b.WriteString(writeEdit(e))
		}
	}
	return []byte(b.String())
}

// head is the line with which a hunk begins.
func (h hunk) head() string {
	n, m := count(h.edits)
	return headSign + place(h.a, n) + " +" + place(h.b, m) + " @@\n"
}

// place is where so many lines stand, and how many they are.
func place(ahead, lines int) string {
	return strconv.Itoa(start(ahead, lines)) + "," + strconv.Itoa(lines)
}

// start is the number of the first line; if there is none, of the one ahead.
func start(ahead, lines int) int { return ahead + min(lines, 1) }

// writeEdit writes a line of a hunk.
func writeEdit(e api.Edit) string {
	s := signs[e.Kind:e.Kind+1] + e.Line
	if !hasEnd(e.Line) {
		s += "\n" + noEnd
	}
	return s
}

func hasEnd(line string) bool { return strings.HasSuffix(line, "\n") }
