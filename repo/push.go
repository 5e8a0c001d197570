package repo

import (
	"slices"
	"strings"

	"gitlike/api"
	"gitlike/wire"
)

// Pushes writes what a repository sends, to set a server's branch.
func (r *Repo) Pushes(offer []byte, branch string, force bool) ([]byte, error) {
	return answer(r, func(c *call) []byte {
		ref := named(branches, branch)
		offered := take(wire.ReadOffer(offer)).Refs
		refuse(!c.isThere(ref), api.ErrNoRef)
		change := api.Change{Name: ref, Old: offeredAs(ref, offered), New: c.standsFor(ref)}
		refuse(change.Old == change.New, api.ErrNothing)
		reached := take(c.closure(change.New))
		_, isKept := reached[change.Old]
		refuse(change.Old != (api.ID{}) && !force && !isKept, api.ErrForward)
		return take(wire.WritePush([]api.Change{change}, c.parcel(reached, idsOf(offered))))
	})
}

// offeredAs is what is offered of a name; nought, if nothing is.
func offeredAs(name string, offered []api.Ref) api.ID {
	i := slices.IndexFunc(offered, func(r api.Ref) bool { return r.Name == name })
	if i < 0 {
		return api.ID{}
	}
	return offered[i].ID
}

// Receive takes what a client sends, in bytes: what became of it.
func (r *Repo) Receive(push []byte) ([]byte, error) {
	return answer(r, func(c *call) []byte {
		changes, pack, err := wire.ReadPush(push)
		need(err)
		unpacked := c.unpack(pack)
		var l []api.Status
		for _, x := range changes {
			err := unpacked
			if err == nil {
				err = c.receive(x)
			}
			l = append(l, api.Status{Name: x.Name, Err: outcome(err)})
		}
		return take(wire.WriteStatus(l))
	})
}

// receive makes a change that was pushed, or tells why it does not.
func (c *call) receive(x api.Change) error {
	isDropped := x.New == api.ID{}
	switch {
	case !strings.HasPrefix(x.Name, branches) && !strings.HasPrefix(x.Name, tags):
		return api.ErrName
	case isDropped && c.headLeadsTo(x.Name):
		return api.ErrBranch
	case !isDropped && !c.isWhole(x.New):
		return api.ErrSent
	}
	return c.refs().Update([]api.Change{x}, nobody(), "push")
}

// outcome is what is told of a change. A disk that fails is not told with it: the call gives up.
func outcome(err error) api.Errno {
	refuse(isOfDisk(err), err)
	return api.Tell(err)
}
