package repo

import (
	"errors"
	"maps"

	"gitlike/api"
	"gitlike/idorder"
	"gitlike/idwalk"
	"gitlike/object"
)

// Objects tells all objects.
func (r *Repo) Objects() ([]api.Object, error) {
	return answer(r, func(c *call) []api.Object {
		var l []api.Object
		for _, id := range c.store().All() {
			l = append(l, take(c.store().Get(id)))
		}
		return l
	})
}

// Check tells whether all that the refs reach is there.
func (r *Repo) Check() error {
	return act(r, func(c *call) { take(c.closure(c.told()...)) })
}

// Collect drops what is reached from nowhere.
func (r *Repo) Collect() error {
	return act(r, func(c *call) {
		take(c.closure(c.told()...))
		for _, id := range c.logged() {
			// Of what is not whole nothing is kept; but what is spoilt was whole, perhaps, and is not dropped for that.
			err := c.complete(id)
			refuse(errors.Is(err, api.ErrCorrupt), err)
		}
		need(c.store().Repack(idorder.Sorted(c.whole)))
	})
}

// told is the ids that refs stand for, by the names of these.
func (c *call) told() []api.ID { return idsOf(c.refs().List("")) }

// logged is the ids in all logs, those of refs too that lead to nothing now; each once, since many are there often.
func (c *call) logged() []api.ID {
	ids := map[api.ID]struct{}{}
	for _, name := range c.refs().Names() {
		for _, e := range take(c.refs().Log(name)) {
			ids[e.Old], ids[e.New] = struct{}{}, struct{}{}
		}
	}
	return idorder.Sorted(ids)
}

// closure is all that ids reach, or the error of 9.4.
func (c *call) closure(from ...api.ID) (map[api.ID]struct{}, error) {
	met, err := idwalk.Through(c.links, from...)
	if err != nil {
		return nil, err
	}
	maps.Copy(c.whole, met)
	return met, nil
}

// complete is the error of 9.4, if not all is there that an id reaches. Objects that the call has found to be whole are not gone through again.
func (c *call) complete(id api.ID) error {
	met, err := idwalk.Through(func(id api.ID) ([]api.ID, error) {
		if _, known := c.whole[id]; known {
			return nil, nil
		}
		return c.links(id)
	}, id)
	if err != nil {
		return err
	}
	maps.Copy(c.whole, met)
	return nil
}

// links is what an object names. Each object is read once, since a call may come by it many times.
func (c *call) links(id api.ID) ([]api.ID, error) {
	if l, known := c.linked[id]; known {
		return l, nil
	}
	o, err := c.store().Get(id)
	refuse(errors.Is(err, api.ErrDisk), err)
	if err != nil {
		return nil, err
	}
	l, err := object.Links(o)
	if err != nil {
		return nil, err
	}
	c.linked[id] = l
	return l, nil
}

// find reads an object, if it is there.
func (c *call) find(id api.ID) (o api.Object, there bool) {
	o, err := c.store().Get(id)
	if errors.Is(err, api.ErrMissing) {
		return o, false
	}
	return take(o, err), true
}

func missing(id api.ID) error { return &api.IDError{ID: id, Err: api.ErrMissing} }

// put stores objects, and tells the id of the last one.
func (c *call) put(l ...api.Object) (id api.ID) {
	for _, o := range l {
		id = take(c.store().Put(o))
	}
	return id
}
