package repo

import (
	"slices"
	"strings"

	"gitlike/api"
	"gitlike/idorder"
	"gitlike/wire"
)

// Wants writes what a repository wants, by what a server offers.
func (r *Repo) Wants(offer []byte) ([]byte, error) {
	return answer(r, func(c *call) []byte {
		wanted := c.lacking(take(wire.ReadOffer(offer)).Refs)
		refuse(len(wanted) == 0, api.ErrNothing)
		return take(wire.WriteWant(wanted, idorder.Sorted(setOf(c.told()))))
	})
}

// Fetched takes a pack, and sets the refs of a remote.
func (r *Repo) Fetched(remote string, offer, pack []byte, who api.Person) error {
	return act(r, func(c *call) {
		front := strings.TrimSuffix(named(remotes, remote+"/x"), "x")
		offered := take(wire.ReadOffer(offer)).Refs
		need(c.unpack(pack))
		refuse(len(c.lacking(offered)) > 0, api.ErrSent)
		need(c.refs().Update(c.fetches(front, offered), who, "fetch"))
	})
}

// lacking is what refs stand for and is not whole, each id once.
func (c *call) lacking(l []api.Ref) []api.ID {
	var ids []api.ID
	met := map[api.ID]struct{}{}
	for _, r := range l {
		if _, again := met[r.ID]; !again && !c.isWhole(r.ID) {
			ids = append(ids, r.ID)
		}
		met[r.ID] = struct{}{}
	}
	return ids
}

// fetches is the changes by which what was offered is there: branches with a remote's front ahead of their names, and those tags of whose names there are none. (Of a name of which nothing can be read Update tells what is wrong.)
func (c *call) fetches(front string, offered []api.Ref) []api.Change {
	var l []api.Change
	for _, r := range offered {
		branch, isBranch := strings.CutPrefix(r.Name, branches)
		switch {
		case isBranch:
			l = append(l, api.Change{Name: front + branch, Old: c.standsFor(front + branch), New: r.ID})
		case strings.HasPrefix(r.Name, tags) && !c.isThere(r.Name):
			l = append(l, api.Change{Name: r.Name, New: r.ID})
		}
	}
	return slices.DeleteFunc(l, func(x api.Change) bool { return x.Old == x.New })
}
