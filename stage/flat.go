package stage

import (
	"iter"

	"gitlike/api"
)

// Flat makes an index of a tree, given all trees.
func Flat(root api.ID, trees []api.Object) ([]api.Entry, error) {
	f := forest{}
	for _, o := range trees {
		f.addTree(o)
	}
	var l []api.Entry
	for e, err := range f.files(root, "") {
		if err != nil {
			return nil, err
		}
		if len(l) == api.MaxEntries {
			return nil, api.ErrStage
		}
		l = append(l, e)
	}
	return l, nil
}

// files goes through the files of a directory and of all below it; front is what stands ahead of its names in paths. Whoever ranges over it stops at the first error: what comes behind one means nothing.
//
// The files come by their paths' bytes, since a directory's name finds its place in a tree with the `/` that it has in a path.
func (f forest) files(id api.ID, front string) iter.Seq2[api.Entry, error] {
	t, there := f[id]
	switch {
	case !there:
		return only(api.Entry{}, &api.IDError{ID: id, Err: api.ErrMissing})
	case len(t.entries) == 0 && front != "":
		return only(api.Entry{}, api.ErrTree)
	}
	return func(yield func(e api.Entry, err error) bool) {
		for _, e := range t.entries {
			for file, err := range f.filesAt(e, front+e.Name) {
				if !yield(file, err) {
					return
				}
			}
		}
	}
}

// filesAt goes through the files of an entry: it, or those of the directory that it is. A directory's own path is looked at before its tree: so this ends even if trees could name each other in a ring.
func (f forest) filesAt(e api.TreeEntry, path string) iter.Seq2[api.Entry, error] {
	switch {
	case !IsPath(path):
		return only(api.Entry{}, api.ErrPath)
	case e.Mode == api.DirMode:
		return f.files(e.ID, path+"/")
	}
	return only(api.Entry{Path: path, Mode: e.Mode, ID: e.ID}, nil)
}

// only goes through one file, or one error.
func only(e api.Entry, err error) iter.Seq2[api.Entry, error] {
	return func(yield func(e api.Entry, err error) bool) { yield(e, err) }
}
