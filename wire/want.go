package wire

import (
	"strings"

	"gitlike/api"
	"gitlike/digest"
)

const (
	wantWord = "want "
	haveWord = "have "
	doneWord = "done"
)

// wanting is what a want says.
type wanting struct{ want, have []api.ID }

// WriteWant writes what a client wants, and has.
func WriteWant(want, have []api.ID) ([]byte, error) {
	wanted, err := writeIDs(want, wantWord)
	if err != nil {
		return nil, err
	}
	had, err := writeIDs(have, haveWord)
	if err != nil {
		return nil, err
	}
	return writeTexts(wanted, []string{noText}, had, []string{doneWord}), nil
}

// ReadWant reads it.
func ReadWant(b []byte) (want, have []api.ID, err error) {
	w, err := readBack(b, readWanting, func(w wanting) ([]byte, error) {
		return WriteWant(w.want, w.have)
	})
	return w.want, w.have, err
}

func writeIDs(l []api.ID, word string) ([]string, error) {
	isNew := once[api.ID]()
	return writeList(l, api.MaxObjects, func(id api.ID) (string, error) {
		return word + digest.Hex(id), isNew(id)
	})
}

func readIDs(texts []string, word string) (l []api.ID, behind []string) {
	return readList(texts, func(text string) (api.ID, error) {
		return digest.Parse(strings.TrimPrefix(text, word))
	})
}

func readWanting(texts []string) wanting {
	want, behind := readIDs(texts, wantWord)
	have, _ := readIDs(behind[min(1, len(behind)):], haveWord) // behind the flush
	return wanting{want, have}
}
