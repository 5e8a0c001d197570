package stage

import (
	"iter"

	"gitlike/api"
	"gitlike/object"
)

// tree is an object, and the entries that its bytes tell.
type tree struct {
	api.Object
	entries []api.TreeEntry
}

// forest is trees by their ids.
type forest map[api.ID]tree

// addTree adds a tree, and tells its id. What is no tree by object.Check is not added.
func (f forest) addTree(o api.Object) (api.ID, error) {
	if o.Kind != api.Tree {
		return api.ID{}, api.ErrKind
	}
	id, err := object.ID(o)
	if err != nil {
		return api.ID{}, err
	}
	entries, err := object.ReadTree(o.Data)
	if err != nil {
		return api.ID{}, err
	}
	f[id] = tree{o, entries}
	return id, nil
}

// addEntries adds the tree of these entries.
func (f forest) addEntries(l []api.TreeEntry) (api.ID, error) {
	b, err := object.WriteTree(l)
	if err != nil {
		return api.ID{}, err
	}
	return f.addTree(api.Object{Kind: api.Tree, Data: b})
}

// namedFirst goes through a tree and those that it names, and so on: each once, behind all that it names. Files are names too: nothing keeps a file from having the id of a tree.
func (f forest) namedFirst(root api.ID) iter.Seq[api.Object] {
	return func(yield func(o api.Object) bool) {
		met := map[api.ID]struct{}{}
		var visit func(id api.ID) bool
		visit = func(id api.ID) bool {
			t, there := f[id]
			_, again := met[id]
			if !there || again {
				return true
			}
			met[id] = struct{}{}
			for _, e := range t.entries {
				if !visit(e.ID) {
					return false
				}
			}
			return yield(t.Object)
		}
		visit(root)
	}
}
