package wire

import (
	"bytes"
	"slices"
	"strings"

	"gitlike/api"
	"gitlike/refs"
)

// What is said is texts: each is a line without its end, and an empty one is a flush, since nothing is said by an empty line.

const (
	lineEnd = "\n"
	noText  = "" // a flush
	blank   = " "
)

// writeList is the texts of a list, each by the closure that writes one.
func writeList[T any](l []T, most int, write func(T) (string, error)) ([]string, error) {
	if len(l) > most {
		return nil, api.ErrTalk
	}
	var texts []string
	for _, x := range l {
		text, err := write(x)
		if err != nil {
			return nil, err
		}
		texts = append(texts, text)
	}
	return texts, nil
}

// readList is the list at the front of texts, as far as the closure that reads one can, and the texts behind it.
func readList[T any](texts []string, read func(string) (T, error)) (l []T, behind []string) {
	for i, text := range texts {
		x, err := read(text)
		if err != nil {
			return l, texts[i:]
		}
		l = append(l, x)
	}
	return l, nil
}

// readBack is what was written as b. The closure that reads may take what cannot be written, or pass something over: it is enough that it reads right what is right, since what it has read is written again and held against b.
func readBack[T any](b []byte, read func([]string) T, write func(T) ([]byte, error)) (T, error) {
	var none T
	texts, err := readTexts(b)
	if err != nil {
		return none, err
	}
	said := read(texts)
	again, err := write(said)
	if err != nil || !bytes.Equal(again, b) {
		return none, api.ErrTalk
	}
	return said, nil
}

// once makes a closure that refuses what it was asked before.
func once[K comparable]() func(K) error {
	seen := map[K]struct{}{}
	return func(k K) error {
		if _, was := seen[k]; was {
			return api.ErrTalk
		}
		seen[k] = struct{}{}
		return nil
	}
}

// onceNamed makes a closure that refuses what is no name of a ref, and names that it was asked before.
func onceNamed() func(string) error {
	isNew := once[string]()
	return func(name string) error {
		if !refs.IsName(name) {
			return api.ErrTalk
		}
		return isNew(name)
	}
}

// writeTexts is texts as packet lines. None is too long for one, whatever it says.
func writeTexts(parts ...[]string) []byte {
	var b []byte
	for _, text := range slices.Concat(parts...) {
		if text != noText {
			text += lineEnd
		}
		b = appendLine(b, []byte(text))
	}
	return b
}

// readTexts is packet lines as texts, whether or not they have their ends.
func readTexts(b []byte) ([]string, error) {
	lines, err := Lines(b)
	if err != nil {
		return nil, err
	}
	var texts []string
	for _, line := range lines {
		texts = append(texts, strings.TrimSuffix(string(line), lineEnd))
	}
	return texts, nil
}
