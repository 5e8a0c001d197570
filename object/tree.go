package object

import (
	"slices"
	"strconv"
	"strings"

	"gitlike/api"
	"gitlike/entryname"
)

// WriteTree writes a tree.
func WriteTree(l []api.TreeEntry) ([]byte, error) {
	if !isTree(l) {
		return nil, api.ErrTree
	}
	var b []byte
	for _, e := range slices.SortedFunc(slices.Values(l), byOrder) {
		b = append(b, words(modeText(e.Mode), e.Name)...)
		b = append(b, 0)
		b = append(b, e.ID[:]...)
	}
	return b, nil
}

// ReadTree reads one.
func ReadTree(b []byte) ([]api.TreeEntry, error) {
	return readBack(b, api.ErrTree, entriesOf, WriteTree)
}

// entriesOf reads entries as far as there are any.
func entriesOf(text string) []api.TreeEntry {
	var l []api.TreeEntry
	for text != "" {
		head, rest, _ := strings.Cut(text, "\x00")
		mode, name, _ := strings.Cut(head, " ")
		e := api.TreeEntry{Mode: modeOf(mode), Name: name}
		text = rest[copy(e.ID[:], rest):]
		l = append(l, e)
	}
	return l
}

// isTree tells whether entries can be those of a tree, in whatever order.
func isTree(l []api.TreeEntry) bool {
	if len(l) > api.MaxEntries {
		return false
	}
	var names []string
	for _, e := range l {
		if !isMode(e.Mode) || !entryname.Is(e.Name) {
			return false
		}
		names = append(names, e.Name)
	}
	return differ(names)
}

func isMode(m api.Mode) bool {
	switch m {
	case api.DirMode, api.FileMode, api.ExecMode, api.LinkMode:
		return true
	}
	return false
}

func modeText(m api.Mode) string { return strconv.FormatInt(int64(m), 8) }

// modeOf is a mode of these digits; none that is one, if they are none.
func modeOf(digits string) api.Mode {
	m, err := strconv.ParseInt(digits, 8, 32)
	if err != nil {
		return 0
	}
	return api.Mode(m)
}

// byOrder compares two entries by their places in a tree.
func byOrder(a, b api.TreeEntry) int { return strings.Compare(placeName(a), placeName(b)) }

// placeName is the name by which an entry finds its place.
func placeName(e api.TreeEntry) string {
	if e.Mode == api.DirMode {
		return e.Name + "/"
	}
	return e.Name
}

// treeLinks tells the ids that a tree names.
func treeLinks(b []byte) ([]api.ID, error) {
	entries, err := ReadTree(b)
	if err != nil {
		return nil, err
	}
	var l []api.ID
	for _, e := range entries {
		l = append(l, e.ID)
	}
	return l, nil
}
