package graph

import (
	"gitlike/api"
	"gitlike/object"
)

// shelf is objects that are found by their ids.
type shelf struct {
	objects []api.Object
	place   map[api.ID]int // by their ids: where in objects they stand
}

// newShelf lays objects on a shelf: of two with one id the first one; none without an id.
func newShelf(l []api.Object) *shelf {
	s := &shelf{l, map[api.ID]int{}}
	for i, o := range l {
		id, err := object.ID(o)
		if _, there := s.place[id]; err == nil && !there {
			s.place[id] = i
		}
	}
	return s
}

// links is what an object names: ErrMissing, if it is not there.
func (s *shelf) links(id api.ID) ([]api.ID, error) {
	i, there := s.place[id]
	if !there {
		return nil, &api.IDError{ID: id, Err: api.ErrMissing}
	}
	return object.Links(s.objects[i])
}
