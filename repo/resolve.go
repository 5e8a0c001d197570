package repo

import (
	"gitlike/api"
	"gitlike/digest"
	"gitlike/object"
	"gitlike/refs"
)

// commit is a commit, by its id, and what it says.
type commit struct {
	id api.ID
	api.CommitInfo
}

// resolve tells which id a text means.
func (c *call) resolve(text string) api.ID {
	if id, err := digest.Parse(text); err == nil {
		return id
	}
	if refs.IsName(text) {
		return take(c.refs().Read(text))
	}
	return c.firstOf(branches+text, tags+text)
}

// firstOf is what the first one of some refs stands for that stands for something.
func (c *call) firstOf(names ...string) api.ID {
	for _, name := range names {
		if id, err := c.refs().Read(name); err == nil {
			return id
		}
	}
	return take(api.ID{}, api.ErrNoRef)
}

// commitAt is the commit that a text means.
func (c *call) commitAt(text string) commit { return c.commitOf(c.resolve(text)) }

// commitOf is the commit that an id means, through tags. All that it reaches is there.
func (c *call) commitOf(id api.ID) commit {
	o := take(c.store().Get(id))
	for o.Kind == api.Tag {
		id = take(object.ReadTag(o.Data)).Target
		o = take(c.store().Get(id))
	}
	found := commit{id, readCommit(o)}
	take(c.closure(id))
	return found
}

// readCommit is what an object says that must be a commit.
func readCommit(o api.Object) api.CommitInfo {
	refuse(o.Kind != api.Commit, api.ErrCommit)
	return take(object.ReadCommit(o.Data))
}
