package pack

import (
	"slices"

	"gitlike/api"
	"gitlike/delta"
	"gitlike/object"
	"gitlike/packentry"
)

// addBases takes the bases that count. Where no entry asks for an id, they are not needed, and the time for their ids is saved.
func (c *contents) addBases(bases []api.Object) {
	if !slices.ContainsFunc(c.entries, func(e entry) bool { return e.Kind == packentry.ByID }) {
		return
	}
	for _, o := range bases {
		if id, err := object.ID(o); err == nil {
			c.outside[id] = o
		}
	}
}

// workOut finds out what the entries are: first those that are no deltas, and then, in as many rounds as deltas may stand one on another, those that stand on what is known by then. What stands on itself, or on nothing, is left over.
func (c *contents) workOut() {
	var waiting []int
	for i := range c.entries {
		e := &c.entries[i]
		if e.IsDelta() {
			waiting = append(waiting, i)
			continue
		}
		e.object = api.Object{Kind: e.Kind, Data: e.data}
		c.know(i)
	}
	for range api.MaxChain {
		waiting = c.round(waiting)
	}
}

// round works out the entries whose bases are known, and answers the others. What it finds becomes known at its end alone: else a delta could stand on one of the same round, and the rounds would not count how many stand one on another.
func (c *contents) round(waiting []int) (left []int) {
	var found []int
	for _, i := range waiting {
		e := &c.entries[i]
		base, there := c.baseOf(e)
		if !there {
			left = append(left, i)
			continue
		}
		if data, err := delta.Apply(base.Data, e.data); err == nil {
			e.object = api.Object{Kind: base.Kind, Data: data}
			found = append(found, i)
		}
	}
	for _, i := range found {
		c.know(i)
	}
	return left
}

// know lets an entry be a base, now that its object is found.
func (c *contents) know(i int) {
	e := &c.entries[i]
	e.known = true
	e.id, _ = object.ID(e.object) // which has one: its kind and its length are right
	c.inside[e.id] = i
}

// baseOf tells which object a delta stands on, if that is known.
func (c *contents) baseOf(e *entry) (base api.Object, there bool) {
	if e.Kind == packentry.ByDistance {
		on := &c.entries[e.base]
		return on.object, on.known
	}
	if o, there := c.outside[e.BaseID]; there {
		return o, true
	}
	if i, there := c.inside[e.BaseID]; there {
		return c.entries[i].object, true
	}
	return api.Object{}, false
}

// check tells what is wrong, if not every entry is an object, and one of its own. Of the first one that is none it is enough to look at its base: that is known, if it is told by a distance, since it stands ahead; and if it is told by an id, it is known or nowhere.
func (c *contents) check() error {
	for i := range c.entries {
		e := &c.entries[i]
		if e.known {
			continue
		}
		if _, there := c.baseOf(e); there {
			return api.ErrPack
		}
		return api.ErrBase
	}
	if len(c.inside) < len(c.entries) {
		return api.ErrPack
	}
	return nil
}
