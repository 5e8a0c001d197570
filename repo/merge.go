package repo

import (
	"cmp"
	"slices"

	"gitlike/api"
	"gitlike/graph"
	"gitlike/idorder"
	"gitlike/idwalk"
	"gitlike/merge"
)

// Merge merges a branch into the one that is in use.
func (r *Repo) Merge(name string, who api.Person, message string) (api.ID, error) {
	return answer(r, func(c *call) api.ID {
		made := signed(who, message)
		theirs := c.commitAt(name)
		was := c.resolve(head)
		ours := c.commitOf(was)
		nodes := c.history(ours.id, theirs.id)
		refuse(take(graph.Reaches(nodes, ours.id, theirs.id)), api.ErrNothing)
		if take(graph.Reaches(nodes, theirs.id, ours.id)) {
			return c.moveHead(was, theirs.id, who, "merge: forward")
		}
		merged := c.mergeFiles(c.baseFiles(nodes, ours, theirs), c.flat(ours.Tree), c.flat(theirs.Tree))
		trees := plant(merged.Entries, &made)
		made.Parents = []api.ID{ours.id, theirs.id}
		c.put(merged.Blobs...)
		c.put(trees...)
		return c.moveHead(was, c.putCommit(made), who, "merge")
	})
}

// Log tells the commits that a ref reaches.
func (r *Repo) Log(name string) ([]api.ID, error) {
	return answer(r, func(c *call) []api.ID {
		from := c.commitAt(name).id
		return take(graph.Order(c.history(from), []api.ID{from}, nil))
	})
}

// history is all commits that some reach.
func (c *call) history(from ...api.ID) []api.Node {
	var nodes []api.Node
	take(idwalk.Through(func(id api.ID) ([]api.ID, error) {
		info := readCommit(take(c.store().Get(id)))
		nodes = append(nodes, api.Node{ID: id, Parents: info.Parents, Time: info.Committer.Time})
		return info.Parents, nil
	}, from...))
	return nodes
}

// baseFiles is the files from which two sides began: of several bases those of the latest one, of none none.
func (c *call) baseFiles(nodes []api.Node, ours, theirs commit) []api.Entry {
	bases := take(graph.Bases(nodes, ours.id, theirs.id))
	if len(bases) == 0 {
		return nil
	}
	nodes = slices.DeleteFunc(slices.Clone(nodes), func(n api.Node) bool { return !slices.Contains(bases, n.ID) })
	last := slices.MaxFunc(nodes, func(x, y api.Node) int {
		return cmp.Or(cmp.Compare(x.Time, y.Time), idorder.Compare(x.ID, y.ID))
	})
	return c.flat(readCommit(take(c.store().Get(last.ID))).Tree)
}

// mergeFiles merges what became of files on two sides, or gives up, if something is left for someone to choose.
func (c *call) mergeFiles(base, ours, theirs []api.Entry) api.Merged {
	merged := take(merge.Trees(base, ours, theirs, c.blobs(base, ours, theirs)))
	for _, e := range merged.Entries {
		refuse(e.Stage != 0, api.ErrConflict)
	}
	return merged
}

// blobs reads the bytes of files, as far as they are there, each once.
func (c *call) blobs(lists ...[]api.Entry) []api.Object {
	var l []api.Object
	met := map[api.ID]struct{}{}
	for _, e := range slices.Concat(lists...) {
		if _, again := met[e.ID]; again {
			continue
		}
		met[e.ID] = struct{}{}
		if o, is := c.findBlob(e.ID); is {
			l = append(l, o)
		}
	}
	return l
}
