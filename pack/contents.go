package pack

import (
	"gitlike/api"
	"gitlike/packentry"
)

// entry is one of a pack: what its head says, and what is found out beside.
type entry struct {
	packentry.Head
	begin, end int    // where in the pack it stands
	data       []byte // what came out of its stream
	base       int    // of packentry.ByDistance: the entry that it stands on
	known      bool   // it is an object, which is this one:
	object     api.Object
	id         api.ID
}

// contents is what a pack has.
type contents struct {
	entries []entry
	begins  map[int]int           // by where they begin: the entries
	inside  map[api.ID]int        // by their objects' ids: the entries that are known
	outside map[api.ID]api.Object // by their ids: the bases
}

// open reads a pack, and works out what its entries are.
func open(b []byte, bases []api.Object) (*contents, error) {
	body, count, err := unframe(b)
	if err != nil {
		return nil, err
	}
	c := &contents{begins: map[int]int{}, inside: map[api.ID]int{}, outside: map[api.ID]api.Object{}}
	if err := c.readEntries(body, count); err != nil {
		return nil, err
	}
	c.addBases(bases)
	c.workOut()
	if err := c.check(); err != nil {
		return nil, err
	}
	return c, nil
}

// readEntries reads so many entries, which must be all that there is.
func (c *contents) readEntries(body []byte, count int) error {
	at := firstEntry
	for i := range count {
		e, err := readEntry(body, at)
		if err != nil {
			return err
		}
		if e.Kind == packentry.ByDistance {
			base, there := c.begins[at-e.Distance]
			if !there {
				return api.ErrPack
			}
			e.base = base
		}
		c.entries = append(c.entries, e)
		c.begins[at] = i
		at = e.end
	}
	if at < len(body) {
		return api.ErrPack
	}
	return nil
}

// readEntry reads the entry that begins at a place.
func readEntry(body []byte, at int) (entry, error) {
	h, data, used, err := packentry.Read(body[at:])
	if err != nil {
		return entry{}, err
	}
	return entry{Head: h, begin: at, end: at + used, data: data}, nil
}
