package store

import (
	"errors"
	"slices"

	"gitlike/api"
	"gitlike/deflate"
	"gitlike/delta"
	"gitlike/digest"
	"gitlike/idorder"
	"gitlike/object"
	"gitlike/pack"
	"gitlike/packentry"
)

// mostEncoded is how many bytes Encode can answer.
const mostEncoded = len("commit 100000\x00") + api.MaxBlob

// read reads an object that is there, wherever it is right.
func (s *Store) read(id api.ID) (api.Object, error) {
	if _, there := s.loose[id]; there {
		o, err := s.readLoose(id)
		if err == nil || errors.Is(err, api.ErrDisk) {
			return o, err
		}
	}
	for _, sum := range s.packsWith(id) {
		o, err := s.readPacked(sum, id)
		if err == nil || errors.Is(err, api.ErrDisk) {
			return o, err
		}
	}
	return api.Object{}, &api.IDError{ID: id, Err: api.ErrCorrupt}
}

// readLoose reads an object from its own file.
func (s *Store) readLoose(id api.ID) (api.Object, error) {
	b, err := s.readFile(looseName(id))
	if err != nil {
		return api.Object{}, err
	}
	out, used, err := deflate.Inflate(b, mostEncoded)
	if err != nil {
		return api.Object{}, err
	}
	if used < len(b) || digest.Sum(out) != id {
		return api.Object{}, api.ErrCorrupt
	}
	return object.Decode(out)
}

// readPacked reads an object from a pack: its entry, and those that it stands on, and no others, since a pack may be long, and all that matters is that the object has that id.
func (s *Store) readPacked(sum, id api.ID) (api.Object, error) {
	p := s.packs[sum]
	var deltas [][]byte
	at := p.begins[id]
	for range api.MaxChain + 1 {
		h, data, err := s.readEntry(sum, at)
		if err != nil {
			return api.Object{}, err
		}
		switch h.Kind {
		case packentry.ByDistance:
			at -= h.Distance
		case packentry.ByID:
			at = p.begins[h.BaseID]
		default:
			return rightObject(api.Object{Kind: h.Kind, Data: data}, deltas, id)
		}
		deltas = append(deltas, data)
	}
	return api.Object{}, api.ErrPack
}

// readEntry reads the entry that begins at a place of a pack.
func (s *Store) readEntry(sum api.ID, at int) (packentry.Head, []byte, error) {
	end, there := s.packs[sum].ends[at]
	if !there {
		return packentry.Head{}, nil, api.ErrPack
	}
	b, err := s.disk.ReadAt(packName(sum), at, end-at)
	if err != nil {
		return packentry.Head{}, nil, err
	}
	h, data, _, err := packentry.Read(b)
	return h, data, err
}

// rightObject is what deltas, the last one first, make of an object, if it has that id.
func rightObject(o api.Object, deltas [][]byte, id api.ID) (api.Object, error) {
	for _, d := range slices.Backward(deltas) {
		data, err := delta.Apply(o.Data, d)
		if err != nil {
			return api.Object{}, err
		}
		o.Data = data
	}
	if got, err := object.ID(o); err != nil || got != id {
		return api.Object{}, api.ErrCorrupt
	}
	return o, nil
}

// readThin reads a pack whose deltas may stand on objects of the store.
func (s *Store) readThin(b []byte) ([]api.Object, error) {
	bases, err := s.named(b)
	if err != nil {
		return nil, err
	}
	return pack.Read(b, bases)
}

// named reads those objects whose ids stand anywhere in a pack. Each base that a delta tells by its id is one of them: so the others, which may be very many, need not be read. What is spoilt is no base.
func (s *Store) named(b []byte) ([]api.Object, error) {
	all := s.ids()
	found := map[api.ID]struct{}{}
	for ; len(b) >= len(api.ID{}); b = b[1:] {
		var id api.ID
		copy(id[:], b)
		if _, there := all[id]; there {
			found[id] = struct{}{}
		}
	}
	var l []api.Object
	for _, id := range idorder.Sorted(found) {
		o, err := s.read(id)
		if errors.Is(err, api.ErrDisk) {
			return nil, err
		}
		if err == nil {
			l = append(l, o)
		}
	}
	return l, nil
}

// chosen reads the objects of ids, each once.
func (s *Store) chosen(keep []api.ID) ([]api.Object, error) {
	set := map[api.ID]struct{}{}
	for _, id := range keep {
		if !s.Has(id) {
			return nil, &api.IDError{ID: id, Err: api.ErrMissing}
		}
		set[id] = struct{}{}
	}
	if len(set) > api.MaxObjects {
		return nil, api.ErrPack
	}
	var l []api.Object
	for _, id := range idorder.Sorted(set) {
		o, err := s.read(id)
		if err != nil {
			return nil, err
		}
		l = append(l, o)
	}
	return l, nil
}
