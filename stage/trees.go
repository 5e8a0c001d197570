package stage

import (
	"iter"
	"strings"

	"gitlike/api"
)

// Trees makes the trees of an index, the root last.
func Trees(l []api.Entry) ([]api.Object, error) {
	sorted, err := inOrder(l)
	if err != nil {
		return nil, err
	}
	for _, e := range sorted {
		if e.Stage != 0 {
			return nil, api.ErrMerge
		}
	}
	f := forest{}
	root, err := f.plant(sorted, 0)
	if err != nil {
		return nil, err
	}
	var trees []api.Object
	for o := range f.namedFirst(root) {
		trees = append(trees, o)
	}
	return trees, nil
}

// plant makes the trees of a directory and of all below it, and tells the directory's id. In its entries' paths, what is in it begins at that byte.
func (f forest) plant(l []api.Entry, at int) (api.ID, error) {
	var made []api.TreeEntry
	for name, below := range children(l, at) {
		e := api.TreeEntry{Mode: below[0].Mode, Name: name, ID: below[0].ID}
		if inner := at + len(name) + 1; inner < len(below[0].Path) {
			id, err := f.plant(below, inner)
			if err != nil {
				return api.ID{}, err
			}
			e.Mode, e.ID = api.DirMode, id
		}
		made = append(made, e)
	}
	return f.addEntries(made)
}

// children goes through what is in a directory: each name, and the entries that are of that name or below it. These stand side by side, since the entries are in order.
func children(sorted []api.Entry, at int) iter.Seq2[string, []api.Entry] {
	return func(yield func(name string, below []api.Entry) bool) {
		for rest := sorted; len(rest) > 0; {
			name, _, _ := strings.Cut(rest[0].Path[at:], "/")
			n := 1
			for n < len(rest) && strings.HasPrefix(rest[n].Path[at:], name+"/") {
				n++
			}
			if !yield(name, rest[:n]) {
				return
			}
			rest = rest[n:]
		}
	}
}
