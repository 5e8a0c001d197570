package object

import (
	"bytes"
	"strings"

	"gitlike/api"
	"gitlike/digest"
)

// words writes texts with a blank between each two.
func words(l ...string) string { return strings.Join(l, " ") }

// line writes words, and a line's end.
func line(l ...string) string { return words(l...) + "\n" }

// letter writes lines, an empty one, and a message.
func letter(message string, lines ...string) []byte {
	return []byte(strings.Join(lines, "") + line() + message)
}

// isMessage tells whether a text can be a commit's or a tag's message.
func isMessage(s string) bool {
	return len(s) <= api.MaxText && !strings.Contains(s, "\x00")
}

// reader takes lines off a text's front.
type reader struct{ rest string }

// line takes a line.
func (r *reader) line() string {
	first, rest, _ := strings.Cut(r.rest, "\n")
	r.rest = rest
	return first
}

// has tells whether the next line begins with that word.
func (r *reader) has(word string) bool { return strings.HasPrefix(r.rest, word+" ") }

// field takes a line: what stands in it behind its word.
func (r *reader) field(word string) string { return strings.TrimPrefix(r.line(), word+" ") }

// id takes a line with an id; nought, if it has none.
func (r *reader) id(word string) api.ID {
	id, _ := digest.Parse(r.field(word))
	return id
}

// readBack reads bytes, and answers what it read if that is written as just these bytes.
// So read need not look for faults: it is enough that it reads what write has written, and ends.
func readBack[T any](b []byte, wrong api.Errno, read func(text string) T, write func(T) ([]byte, error)) (T, error) {
	got := read(string(b))
	again, err := write(got)
	if err != nil || !bytes.Equal(again, b) {
		var none T
		return none, wrong
	}
	return got, nil
}

// differ tells whether nothing is there twice.
func differ[T comparable](l []T) bool {
	last := make(map[T]int, len(l))
	for i, x := range l {
		last[x] = i
	}
	return len(last) == len(l)
}
