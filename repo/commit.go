package repo

import (
	"errors"
	"strings"

	"gitlike/api"
	"gitlike/object"
	"gitlike/stage"
)

// mostLogged is how many bytes of a message a log has.
const mostLogged = 60

// Commit makes a commit of files, on the branch that is in use.
func (r *Repo) Commit(files []api.File, who api.Person, message string) (api.ID, error) {
	return answer(r, func(c *call) api.ID {
		entries, blobs := staged(files)
		made := signed(who, message)
		was := c.inUse()
		var parent commit
		if was != (api.ID{}) {
			parent = c.commitOf(was)
			made.Parents = []api.ID{parent.id}
		}
		trees := plant(entries, &made)
		refuse(was != (api.ID{}) && parent.Tree == made.Tree, api.ErrNothing)
		c.put(blobs...)
		c.put(trees...)
		return c.moveHead(was, c.putCommit(made), who, "commit: "+firstLine(message))
	})
}

// staged is files as an index has them, and their bytes as blobs.
func staged(files []api.File) ([]api.Entry, []api.Object) {
	var entries []api.Entry
	var blobs []api.Object
	for _, f := range files {
		entries = append(entries, api.Entry{Path: f.Path, Mode: f.Mode, Size: len(f.Data)})
		blobs = append(blobs, api.Object{Kind: api.Blob, Data: f.Data})
	}
	take(stage.Write(entries))
	// What an index cannot have may be too long for an id.
	for i, o := range blobs {
		entries[i].ID = take(object.ID(o))
	}
	return entries, blobs
}

// signed is a commit by someone, without a tree yet.
func signed(who api.Person, message string) api.CommitInfo {
	c := api.CommitInfo{Author: who, Committer: who, Message: message}
	_, err := object.WriteCommit(c)
	refuse(err != nil, api.ErrAuthor)
	return c
}

// plant makes the trees of files, and lets a commit have them.
func plant(entries []api.Entry, c *api.CommitInfo) []api.Object {
	trees := take(stage.Trees(entries))
	c.Tree = take(object.ID(trees[len(trees)-1]))
	return trees
}

// inUse is what HEAD stands for; nought, if where it leads to is not there yet.
func (c *call) inUse() api.ID {
	id, err := c.refs().Read(head)
	if errors.Is(err, api.ErrNoRef) {
		return api.ID{}
	}
	return take(id, err)
}

// putCommit stores a commit.
func (c *call) putCommit(info api.CommitInfo) api.ID {
	return c.put(api.Object{Kind: api.Commit, Data: take(object.WriteCommit(info))})
}

// moveHead lets HEAD stand for another id, which it tells.
func (c *call) moveHead(was, now api.ID, who api.Person, text string) api.ID {
	c.change(head, was, now, who, text)
	return now
}

// change changes a ref.
func (c *call) change(name string, was, now api.ID, who api.Person, text string) {
	need(c.refs().Update([]api.Change{{Name: name, Old: was, New: now}}, who, text))
}

// firstLine is the beginning of a message, as a log has it.
func firstLine(message string) string {
	line, _, _ := strings.Cut(message, "\n")
	return line[:min(len(line), mostLogged)]
}
