package diff

import (
	"bytes"
	"slices"
	"strconv"
	"strings"

	"gitlike/api"
)

// mostNumber has nine digits.
const mostNumber = 999999999

// readPatch reads hunks: ErrPatch, if that is not what they are.
func readPatch(patch []byte) ([]hunk, error) {
	l := readHunks(patch)
	settle(l)
	// Of a hunk's head only one number is read, and of a line whatever there is: all else is held against what is written for the same hunks. So there is no second way to spell a patch.
	if !areRight(l) || !bytes.Equal(writeHunks(l), patch) {
		return nil, api.ErrPatch
	}
	return l, nil
}

// readHunks reads what writeHunks has written, but for where a hunk begins in b. Of other bytes it reads anything.
func readHunks(patch []byte) []hunk {
	var l []hunk
	for _, line := range Lines(patch) {
		last := len(l) - 1
		switch {
		case strings.HasPrefix(line, headSign):
			l = append(l, hunk{a: readStart(line)})
		case last < 0:
		case line == noEnd && len(l[last].edits) > 0:
			e := &l[last].edits[len(l[last].edits)-1]
			e.Line = strings.TrimSuffix(e.Line, "\n")
		default:
			l[last].edits = append(l[last].edits, readEdit(line))
		}
	}
	return l
}

// readStart reads the first number of a hunk's head. It is never so great, or below 0, that a sum of it could turn about.
func readStart(head string) int {
	digits, _, _ := strings.Cut(strings.TrimPrefix(head, headSign), ",")
	n, _ := strconv.ParseUint(digits, 10, 32)
	return int(n)
}

// readEdit reads a line of a hunk; one that no sign begins as if it was kept.
func readEdit(line string) api.Edit {
	kind := max(strings.Index(signs, line[:1]), 0)
	return api.Edit{Kind: api.EditKind(kind), Line: line[1:]}
}

// settle tells how many lines stand ahead of hunks whose first numbers were read: in a, and, given what the hunks ahead drop and insert, in b.
func settle(l []hunk) {
	grown := 0
	for i := range l {
		n, m := count(l[i].edits)
		l[i].a -= start(0, n)
		l[i].b = l[i].a + grown
		grown += m - n
	}
}

// areRight tells whether hunks are what a patch may have.
func areRight(l []hunk) bool {
	end := 0
	for _, h := range l {
		n, m := count(h.edits)
		if h.a < end || max(start(h.a, n), n, start(h.b, m), m) > mostNumber {
			return false
		}
		if !slices.ContainsFunc(h.edits, isChange) || slices.ContainsFunc(h.edits, isEmpty) {
			return false
		}
		end = h.a + n
	}
	return true
}

func isChange(e api.Edit) bool { return e.Kind != api.Keep }

// isEmpty tells whether an edit has no line: without an end, there must be something else.
func isEmpty(e api.Edit) bool { return e.Line == "" }

// change makes the lines that hunks leave of others: ErrApply, if they do not fit.
func change(lines []string, hunks []hunk) ([]string, error) {
	var made []string
	at := 0
	for _, h := range hunks {
		if h.a > len(lines) {
			return nil, api.ErrApply
		}
		made = append(made, lines[at:h.a]...)
		at = h.a
		for _, e := range h.edits {
			if e.Kind != api.Insert {
				if at == len(lines) || lines[at] != e.Line {
					return nil, api.ErrApply
				}
				at++
			}
			if e.Kind != api.Drop {
				made = append(made, e.Line)
			}
		}
	}
	made = append(made, lines[at:]...)
	if !areLines(made) {
		return nil, api.ErrApply
	}
	return made, nil
}

// areLines tells whether all but the last one have their ends: else two of them would run into one.
func areLines(l []string) bool {
	for _, line := range l[:max(len(l)-1, 0)] {
		if !hasEnd(line) {
			return false
		}
	}
	return true
}
