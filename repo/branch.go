package repo

import (
	"gitlike/api"
	"gitlike/object"
	"gitlike/refs"
)

// Branch makes a branch.
func (r *Repo) Branch(name, at string) error {
	return act(r, func(c *call) {
		ref := named(branches, name)
		found := c.commitAt(at)
		refuse(c.isThere(ref), api.ErrBranch)
		c.change(ref, api.ID{}, found.id, nobody(), "branch")
	})
}

// Switch takes another branch into use.
func (r *Repo) Switch(name string) error {
	return act(r, func(c *call) {
		ref := named(branches, name)
		refuse(!c.isThere(ref), api.ErrNoRef)
		need(c.refs().Link(head, ref))
	})
}

// Drop removes a branch.
func (r *Repo) Drop(name string) error {
	return act(r, func(c *call) {
		ref := named(branches, name)
		refuse(!c.isThere(ref), api.ErrNoRef)
		refuse(c.headLeadsTo(ref), api.ErrBranch)
		c.change(ref, take(c.refs().Read(ref)), api.ID{}, nobody(), "drop")
	})
}

// Tag makes a tag.
func (r *Repo) Tag(name, at string, who api.Person, message string) (api.ID, error) {
	return answer(r, func(c *call) api.ID {
		ref := named(tags, name)
		found := c.commitAt(at)
		refuse(c.isThere(ref), api.ErrBranch)
		data := take(object.WriteTag(api.TagInfo{Target: found.id, Kind: api.Commit, Name: name, Tagger: who, Message: message}))
		id := c.put(api.Object{Kind: api.Tag, Data: data})
		c.change(ref, api.ID{}, id, who, "tag")
		return id
	})
}

// named is the name of a ref.
func named(front, name string) string {
	refuse(!refs.IsName(front+name), api.ErrName)
	return front + name
}

// isThere tells whether a ref stands for an id.
func (c *call) isThere(ref string) bool {
	_, err := c.refs().Read(ref)
	return err == nil
}

// headLeadsTo tells whether a ref is the one that is in use.
func (c *call) headLeadsTo(ref string) bool {
	target, err := c.refs().Target(head)
	return err == nil && target == ref
}

// nobody is who makes and drops branches.
func nobody() api.Person { return api.Person{} }
