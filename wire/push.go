package wire

import (
	"bytes"
	"strings"

	"gitlike/api"
	"gitlike/digest"
)

// WritePush writes what a client sends.
func WritePush(l []api.Change, pack []byte) ([]byte, error) {
	check := onceNamed()
	changes, err := writeList(l, api.MaxRefs, func(c api.Change) (string, error) {
		return digest.Hex(c.Old) + blank + digest.Hex(c.New) + blank + c.Name, check(c.Name)
	})
	if err != nil {
		return nil, err
	}
	return append(writeTexts(changes, []string{noText}), pack...), nil
}

// ReadPush reads it.
func ReadPush(b []byte) ([]api.Change, []byte, error) {
	n, err := flushEnd(b)
	if err != nil {
		return nil, nil, err
	}
	changes, err := readBack(b[:n], readChanges, func(l []api.Change) ([]byte, error) {
		return WritePush(l, nil)
	})
	if err != nil {
		return nil, nil, err
	}
	return changes, bytes.Clone(b[n:]), nil
}

// flushEnd is where the first flush ends. What is behind it may look like packet lines, and is not looked at.
func flushEnd(b []byte) (int, error) {
	at := 0
	for {
		line, behind, err := first(b[at:])
		if err != nil {
			return 0, err
		}
		at = len(b) - len(behind)
		if len(line) == 0 {
			return at, nil
		}
	}
}

func readChanges(texts []string) []api.Change {
	l, _ := readList(texts, readChange)
	return l
}

func readChange(text string) (api.Change, error) {
	old, more, _ := strings.Cut(text, blank)
	now, name, _ := strings.Cut(more, blank)
	from, err := digest.Parse(old)
	if err != nil {
		return api.Change{}, err
	}
	to, err := digest.Parse(now)
	return api.Change{Name: name, Old: from, New: to}, err
}
