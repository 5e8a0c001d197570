package repo

import (
	"iter"
	"slices"

	"gitlike/api"
	"gitlike/idorder"
	"gitlike/pack"
	"gitlike/wire"
)

// Offer answers what the repository has, in bytes.
func (r *Repo) Offer() ([]byte, error) {
	return answer(r, func(c *call) []byte {
		return take(wire.WriteOffer(api.Offer{Head: take(c.refs().Target(head)), Refs: c.offered()}))
	})
}

// Upload answers what a client wants, in bytes: a pack.
func (r *Repo) Upload(want []byte) ([]byte, error) {
	return answer(r, func(c *call) []byte {
		wanted, has, err := wire.ReadWant(want)
		need(err)
		offered := setOf(idsOf(c.offered()))
		for _, id := range wanted {
			_, is := offered[id]
			refuse(!is, api.ErrWant)
		}
		return c.parcel(take(c.closure(wanted...)), has)
	})
}

// offered is the refs that others may know of, by their names.
func (c *call) offered() []api.Ref {
	return slices.Concat(c.refs().List(branches), c.refs().List(tags))
}

// parcel is a pack of those objects of a closure that somebody lacks who has these ids, and all that they reach, as far as they are whole here. Its deltas stand on each other, or on the closure's other objects: these are there on both sides.
func (c *call) parcel(closure map[api.ID]struct{}, ids []api.ID) []byte {
	had := take(c.closure(c.wholeOf(ids)...))
	isHad := func(id api.ID) bool {
		_, is := had[id]
		return is
	}
	isLacking := func(id api.ID) bool { return !isHad(id) }
	var sent, bases []api.Object
	for o := range c.chosen(closure, isLacking) {
		sent = append(sent, o)
	}
	for o := range c.chosen(closure, isHad) {
		bases = append(bases, o)
	}
	return take(pack.Thin(sent, bases))
}

// chosen goes through those objects of ids that a closure chooses, in the order of their ids.
func (c *call) chosen(ids map[api.ID]struct{}, choose func(id api.ID) bool) iter.Seq[api.Object] {
	return func(yield func(o api.Object) bool) {
		for _, id := range idorder.Sorted(ids) {
			if choose(id) && !yield(take(c.store().Get(id))) {
				return
			}
		}
	}
}

// wholeOf is those of ids that are whole.
func (c *call) wholeOf(ids []api.ID) []api.ID {
	return slices.DeleteFunc(slices.Clone(ids), func(id api.ID) bool { return !c.isWhole(id) })
}

// isWhole tells whether all is there that an id reaches.
func (c *call) isWhole(id api.ID) bool { return c.complete(id) == nil }

// unpack adds the objects of a pack, if there are bytes of one: AddPack's error. If the disk fails, the call gives up.
func (c *call) unpack(pack []byte) error {
	if len(pack) == 0 {
		return nil
	}
	_, err := c.store().AddPack(pack)
	refuse(isOfDisk(err), err)
	return err
}

// standsFor is the id of a ref; nought, if it has none.
func (c *call) standsFor(ref string) api.ID {
	id, _ := c.refs().Read(ref)
	return id
}

// idsOf is what refs stand for.
func idsOf(l []api.Ref) []api.ID {
	var ids []api.ID
	for _, r := range l {
		ids = append(ids, r.ID)
	}
	return ids
}

func setOf(ids []api.ID) map[api.ID]struct{} {
	set := map[api.ID]struct{}{}
	for _, id := range ids {
		set[id] = struct{}{}
	}
	return set
}
