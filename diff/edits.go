package diff

import (
	"slices"

	"gitlike/api"
)

// mostLines: where a text has more lines, nothing in common is looked for behind the front of both. So numbers of lines fit into 16 bits, and the table of them into some megabytes.
const mostLines = 2000

// between tells how the lines of a become those of b.
func between(a, b []string) []api.Edit {
	same := front(a, b)
	kept := all(api.Keep, a[:same])
	if max(len(a), len(b)) > mostLines {
		return slices.Concat(kept, all(api.Drop, a[same:]), all(api.Insert, b[same:]))
	}
	return append(kept, weave(a[same:], b[same:])...)
}

// front tells with how many lines both begin.
func front(a, b []string) int {
	n := 0
	for n < min(len(a), len(b)) && a[n] == b[n] {
		n++
	}
	return n
}

// all is lines of which the same becomes.
func all(kind api.EditKind, lines []string) []api.Edit {
	l := make([]api.Edit, len(lines))
	for i, line := range lines {
		l[i] = api.Edit{Kind: kind, Line: line}
	}
	return l
}

// weave is between, of lines whose numbers the table can hold.
func weave(a, b []string) []api.Edit {
	n := numbering{}
	x, y := n.lines(a), n.lines(b)
	most := inCommon(x, y)
	var l []api.Edit
	for i, k := 0, 0; i < len(a) || k < len(b); {
		switch {
		case i < len(a) && k < len(b) && x[i] == y[k]:
			l = append(l, api.Edit{Kind: api.Keep, Line: a[i]})
			i++
			k++
		case k == len(b) || i < len(a) && most[i+1][k] >= most[i][k+1]:
			l = append(l, api.Edit{Kind: api.Drop, Line: a[i]})
			i++
		default:
			l = append(l, api.Edit{Kind: api.Insert, Line: b[k]})
			k++
		}
	}
	return l
}

// inCommon is a table: how many lines those of x from i on and those of y from k on have in common, in the same order, at most.
func inCommon(x, y []int) [][]uint16 {
	most := make([][]uint16, len(x)+1)
	for i := range most {
		most[i] = make([]uint16, len(y)+1)
	}
	for i := len(x) - 1; i >= 0; i-- {
		for k := len(y) - 1; k >= 0; k-- {
			if x[i] == y[k] {
				most[i][k] = most[i+1][k+1] + 1
			} else {
				most[i][k] = max(most[i+1][k], most[i][k+1])
			}
		}
	}
	return most
}
