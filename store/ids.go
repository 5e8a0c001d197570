package store

import (
	"maps"

	"gitlike/api"
	"gitlike/idorder"
	"gitlike/object"
)

// ids is the set of all objects that are there.
func (s *Store) ids() map[api.ID]struct{} {
	set := maps.Clone(s.loose)
	for _, p := range s.packs {
		for id := range p.begins {
			set[id] = struct{}{}
		}
	}
	return set
}

// packsWith tells which packs have an object. They are sorted, so that it is always the same one that is read first.
func (s *Store) packsWith(id api.ID) []api.ID {
	with := map[api.ID]struct{}{}
	for sum, p := range s.packs {
		if _, there := p.begins[id]; there {
			with[sum] = struct{}{}
		}
	}
	return idorder.Sorted(with)
}

// idsOf is the ids of objects, in their order.
func idsOf(l []api.Object) ([]api.ID, error) {
	var ids []api.ID
	for _, o := range l {
		id, err := object.ID(o)
		if err != nil {
			return nil, err
		}
		ids = append(ids, id)
	}
	return ids, nil
}

// sumOf is a pack's SHA-1, its last bytes.
func sumOf(b []byte) (sum api.ID) {
	copy(sum[:], b[len(b)-len(sum):])
	return sum
}
