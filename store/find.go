package store

import (
	"bytes"
	"errors"
	"slices"

	"gitlike/api"
	"gitlike/pack"
)

// pile is a pack: where in its file the objects are.
type pile struct {
	begins map[api.ID]int // by their ids: where the objects' entries begin
	ends   map[int]int    // by where they begin: where the entries end
}

// newPile is the pile of a pack whose objects have these places.
func newPile(b []byte, places []api.Place) pile {
	p := pile{begins: map[api.ID]int{}, ends: map[int]int{}}
	back := slices.SortedFunc(slices.Values(places), func(x, y api.Place) int { return y.Offset - x.Offset })
	end := len(b) - len(api.ID{})
	for _, x := range back {
		p.begins[x.ID] = x.Offset
		p.ends[x.Offset] = end
		end = x.Offset
	}
	return p
}

// find takes what a file has, if it is one that has objects. (An index is looked at together with its pack.)
func (s *Store) find(name string) error {
	var err error
	if id, is := looseID(name); is {
		err = s.findLoose(id)
	} else if sum, is := packSum(name); is {
		err = s.findPack(sum)
	}
	if errors.Is(err, api.ErrDisk) {
		return err
	}
	// What is not as it should be has no objects, and that is all that is wrong with it.
	return nil
}

// findLoose takes the object of that id, or tells why it cannot.
func (s *Store) findLoose(id api.ID) error {
	if _, err := s.readLoose(id); err != nil {
		return err
	}
	s.loose[id] = struct{}{}
	s.unsure[looseName(id)] = struct{}{}
	return nil
}

// findPack takes the pack of that SHA-1, or tells why it cannot.
func (s *Store) findPack(sum api.ID) error {
	b, err := s.readFile(packName(sum))
	if err != nil {
		return err
	}
	idx, err := s.readFile(idxName(sum))
	if err != nil {
		return err
	}
	places, err := pack.Places(b, nil)
	if err != nil {
		return err
	}
	want, err := pack.WriteIdx(places, sum)
	if err != nil {
		return err
	}
	if sumOf(b) != sum || !bytes.Equal(idx, want) {
		return api.ErrCorrupt
	}
	s.packs[sum] = newPile(b, places)
	s.unsure[packName(sum)] = struct{}{}
	s.unsure[idxName(sum)] = struct{}{}
	return nil
}
