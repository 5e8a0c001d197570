package refs

import (
	"bytes"
	"strings"

	"gitlike/api"
	"gitlike/digest"
	"gitlike/person"
)

// step is one thing that becomes of a ref. The file has a line of each, which begins with its word.
type step struct {
	word   string
	name   string
	id     api.ID       // of refWord
	target string       // of linkWord
	entry  api.LogEntry // of logWord
}

const (
	refWord  = "ref"  // it stands for an id
	linkWord = "link" // it leads to another one
	dropWord = "drop" // it is gone, and its log too
	logWord  = "log"  // an entry is added to its log
)

// change is the steps by which the last name on a way comes to stand for an entry's New, and all that are there then have it in their logs.
func change(way []string, e api.LogEntry) []step {
	end := len(way) - 1
	steps := []step{{word: refWord, name: way[end], id: e.New}}
	if e.New == (api.ID{}) {
		steps[0].word = dropWord
		way = way[:end]
	}
	for _, name := range way {
		steps = append(steps, step{word: logWord, name: name, entry: e})
	}
	return steps
}

// steps is the steps that make the table.
func (t table) steps() []step {
	var l []step
	for _, name := range t.names() {
		one := t[name]
		first := step{word: refWord, name: name, id: one.id, target: one.target}
		if one.target != "" {
			first.word = linkWord
		}
		l = append(l, first)
		for _, e := range one.log {
			l = append(l, step{word: logWord, name: name, entry: e})
		}
	}
	return l
}

// canLog tells whether a text by that person can be in a log.
func canLog(who api.Person, text string) bool {
	return person.CanWrite(who) && len(text) <= api.MaxText && !strings.ContainsAny(text, "\n\x00")
}

// canBe tells whether a call can make such a step.
func (s step) canBe() bool {
	if !IsName(s.name) {
		return false
	}
	switch s.word {
	case refWord:
		return s.id != api.ID{}
	case linkWord:
		return IsName(s.target) && s.target != s.name
	case logWord:
		return canLog(s.entry.Who, s.entry.Text)
	}
	return true
}

// writeSteps writes the lines of steps.
func writeSteps(steps []step) []byte {
	var b []byte
	for _, s := range steps {
		switch s.word {
		case refWord:
			b = appendLine(b, s.word, s.name, digest.Hex(s.id))
		case linkWord:
			b = appendLine(b, s.word, s.name, s.target)
		case dropWord:
			b = appendLine(b, s.word, s.name)
		case logWord:
			e := s.entry
			b = appendLine(b, s.word, s.name, digest.Hex(e.Old), digest.Hex(e.New), person.Write(e.Who)+"\t"+e.Text)
		}
	}
	return b
}

// appendLine writes a line: words with a blank between each two.
func appendLine(b []byte, words ...string) []byte {
	for i, w := range words {
		if i > 0 {
			b = append(b, ' ')
		}
		b = append(b, w...)
	}
	return append(b, '\n')
}

// readSteps reads just what writeSteps can have written of steps that can be.
func readSteps(lines []byte) ([]step, error) {
	var steps []step
	for line := range bytes.Lines(lines) {
		// Each line becomes a text by itself: so what is kept of one keeps no others in memory.
		s := stepOf(strings.TrimSuffix(string(line), "\n"))
		if !s.canBe() {
			return nil, api.ErrCorrupt
		}
		steps = append(steps, s)
	}
	if !bytes.Equal(writeSteps(steps), lines) {
		return nil, api.ErrCorrupt
	}
	return steps, nil
}

// stepOf reads a line. It need not look for faults: what it answers is written again, and held against the line.
func stepOf(line string) step {
	word, rest, _ := strings.Cut(line, " ")
	name, rest, _ := strings.Cut(rest, " ")
	s := step{word: word, name: name}
	switch word {
	case refWord:
		s.id = idOf(rest)
	case linkWord:
		s.target = rest
	case logWord:
		s.entry = entryOf(rest)
	}
	return s
}

// idOf reads an id; nought, if it is none.
func idOf(hex string) api.ID {
	id, _ := digest.Parse(hex)
	return id
}

// entryOf reads an entry of a log. Persons may have tabs too: but none between the address's end and the tab ahead of the text.
func entryOf(words string) api.LogEntry {
	oldHex, rest, _ := strings.Cut(words, " ")
	newHex, rest, _ := strings.Cut(rest, " ")
	named, rest, _ := strings.Cut(rest, ">")
	time, text, _ := strings.Cut(rest, "\t")
	return api.LogEntry{Old: idOf(oldHex), New: idOf(newHex), Who: person.Read(named + ">" + time), Text: text}
}
