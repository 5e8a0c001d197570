package refs

import (
	"bytes"
	"errors"
	"strconv"
	"strings"

	"gitlike/api"
	"gitlike/digest"
)

// The file is blocks, one for each call that added to it; the first one makes all that was there when the file was written anew. A block is a head, and the lines of its steps. The head is a line too: how many bytes the steps have, their SHA-1, and the SHA-1 of the head's words up to there. So a block that is spoilt can be told from one that a crash has cut short: the one is not what it says; the other ends within its head, or its head is right and says that more should follow.
const (
	headWord = "block "
	sizeLen  = 16 // hexadecimal digits: so many has the greatest int
	hexLen   = 2 * len(api.ID{})
	wordsLen = len(headWord) + sizeLen + len(" ") + hexLen
	headLen  = wordsLen + len(" ") + hexLen + len("\n")
)

// errCut: a block was cut short.
var errCut = errors.New("refs: a block was cut short")

// block lays a head ahead of lines.
func block(lines []byte) []byte {
	size := strconv.FormatInt(int64(len(lines)), 16)
	words := headWord + strings.Repeat("0", sizeLen-len(size)) + size + " " + digest.Hex(digest.Sum(lines))
	return append([]byte(sealed(words)), lines...)
}

// sealed is a head, by its words.
func sealed(words string) string {
	return words + " " + digest.Hex(digest.Sum([]byte(words))) + "\n"
}

// cutBlock takes a block off the front of bytes: its lines, and what is behind it.
func cutBlock(b []byte) (lines, rest []byte, err error) {
	if word := string(b[:min(len(b), len(headWord))]); !strings.HasPrefix(headWord, word) {
		return nil, nil, api.ErrCorrupt
	}
	if len(b) < headLen {
		return nil, nil, errCut
	}
	head := string(b[:headLen])
	size, err := strconv.ParseInt(head[len(headWord):][:sizeLen], 16, 64)
	if err != nil || size < 0 || sealed(head[:wordsLen]) != head {
		return nil, nil, api.ErrCorrupt
	}
	if size > int64(len(b)-headLen) {
		return nil, nil, errCut
	}
	end := headLen + int(size)
	if !bytes.Equal(block(b[headLen:end]), b[:end]) {
		return nil, nil, api.ErrCorrupt
	}
	return b[headLen:end], b[end:], nil
}

// readBlocks reads a file, and tells whether it is whole to its end. Only a block that was added can have been cut short: the first one was safe before the file had its name.
func readBlocks(b []byte) (t table, whole bool, err error) {
	t = table{}
	b, err = t.takeBlock(b)
	if err != nil {
		return nil, false, api.ErrCorrupt
	}
	for len(b) > 0 && err == nil {
		b, err = t.takeBlock(b)
	}
	cut := errors.Is(err, errCut)
	if err != nil && !cut || !t.canBe() {
		return nil, false, api.ErrCorrupt
	}
	return t, !cut, nil
}

// takeBlock takes the steps of the block at the front of bytes, and tells what is behind it.
func (t table) takeBlock(b []byte) ([]byte, error) {
	lines, rest, err := cutBlock(b)
	if err != nil {
		return nil, err
	}
	steps, err := readSteps(lines)
	if err != nil {
		return nil, err
	}
	for _, s := range steps {
		t.take(s)
	}
	return rest, nil
}
