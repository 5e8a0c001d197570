package merge

import (
	"bytes"

	"gitlike/api"
	"gitlike/diff"
)

// dropped is the place of a line that is not there any more.
const dropped = -1

// cut parts three texts into pieces, and hands them on one by one. A firm line is a piece by itself, the same in all three.
func cut(text three[[]byte], take func(piece three[[]byte])) {
	inOurs, inTheirs := places(text.base, text.ours), places(text.base, text.theirs)
	var from, to three[int]
	for i, line := range diff.Lines(text.base) {
		if inOurs[i] != dropped && inTheirs[i] != dropped {
			to.ours, to.theirs = inOurs[i], inTheirs[i]
			behind := three[int]{to.base + len(line), to.ours + len(line), to.theirs + len(line)}
			take(between(text, from, to))
			take(between(text, to, behind))
			from = behind
		}
		to.base += len(line)
	}
	take(between(text, from, three[int]{len(text.base), len(text.ours), len(text.theirs)}))
}

// places tells of each line of base at which byte of side it begins, if it is kept there.
func places(base, side []byte) []int {
	var l []int
	at := 0
	for _, e := range diff.Edits(base, side) {
		switch e.Kind {
		case api.Drop:
			l = append(l, dropped)
		case api.Keep:
			l = append(l, at)
			fallthrough // it is a line of side, too
		case api.Insert:
			at += len(e.Line)
		}
	}
	return l
}

// between is a piece of each of three texts.
func between(text three[[]byte], from, to three[int]) three[[]byte] {
	return three[[]byte]{text.base[from.base:to.base], text.ours[from.ours:to.ours], text.theirs[from.theirs:to.theirs]}
}

// showBoth writes a piece on which the sides do not agree, for someone to choose.
func showBoth(piece three[[]byte], a, b string) []byte {
	text := []byte("<<<<<<< " + a + "\n")
	text = appendLines(text, piece.ours)
	text = append(text, "=======\n"...)
	text = appendLines(text, piece.theirs)
	return append(text, ">>>>>>> "+b+"\n"...)
}

// appendLines adds lines, each with an end: more lines are to stand behind them.
func appendLines(text, lines []byte) []byte {
	text = append(text, lines...)
	if len(lines) > 0 && !bytes.HasSuffix(lines, []byte("\n")) {
		text = append(text, '\n')
	}
	return text
}
