package repo

import (
	"gitlike/api"
	"gitlike/idwalk"
	"gitlike/object"
	"gitlike/stage"
)

// Files tells the files of a commit (by its id, or by the name of a ref).
func (r *Repo) Files(name string) ([]api.File, error) {
	return answer(r, func(c *call) []api.File {
		var l []api.File
		for _, e := range c.flat(c.commitAt(name).Tree) {
			o, is := c.findBlob(e.ID)
			refuse(!is, missing(e.ID))
			l = append(l, api.File{Path: e.Path, Mode: e.Mode, Data: o.Data})
		}
		return l
	})
}

// flat is the files of a tree, without their bytes.
func (c *call) flat(root api.ID) []api.Entry { return take(stage.Flat(root, c.trees(root))) }

// trees reads a tree and those of the directories below it, as far as they are there. Flat looks for no others.
func (c *call) trees(root api.ID) []api.Object {
	var l []api.Object
	take(idwalk.Through(func(id api.ID) ([]api.ID, error) {
		o, there := c.find(id)
		if !there || o.Kind != api.Tree {
			return nil, nil
		}
		l = append(l, o)
		return directories(o), nil
	}, root))
	return l
}

// directories is the ids of the directories in a tree; of what is none there are none, and Flat takes no notice of it.
func directories(tree api.Object) (ids []api.ID) {
	entries, _ := object.ReadTree(tree.Data)
	for _, e := range entries {
		if e.Mode == api.DirMode {
			ids = append(ids, e.ID)
		}
	}
	return ids
}

// findBlob reads a file's bytes, if they are there.
func (c *call) findBlob(id api.ID) (o api.Object, is bool) {
	o, there := c.find(id)
	return o, there && o.Kind == api.Blob
}
