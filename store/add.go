package store

import (
	"errors"
	"strings"

	"gitlike/api"
	"gitlike/deflate"
	"gitlike/digest"
	"gitlike/object"
	"gitlike/pack"
)

// add adds those objects of which there is no right one already.
func (s *Store) add(l []api.Object) error {
	var lacking []api.Object
	for _, o := range l {
		id, err := object.ID(o)
		if err != nil {
			return err
		}
		_, err = s.Get(id)
		if errors.Is(err, api.ErrDisk) {
			return err
		}
		if err != nil {
			lacking = append(lacking, o)
		}
	}
	if len(lacking) == 0 && len(s.unsure) == 0 {
		return nil
	}
	return s.addLoose(lacking)
}

// addLoose writes objects into files of their own, whether they are there already or not.
func (s *Store) addLoose(l []api.Object) error {
	var laid []api.ID
	for _, o := range l {
		b, err := object.Encode(o)
		if err != nil {
			return err
		}
		id := digest.Sum(b)
		if err := s.lay(file{looseName(id), deflate.Deflate(b)}); err != nil {
			return err
		}
		laid = append(laid, id)
	}
	if err := s.settle(); err != nil {
		return err
	}
	for _, id := range laid {
		s.loose[id] = struct{}{}
	}
	return nil
}

// addWhole adds a pack that needs no bases, or, if its name is taken, or it is too long for an index, its objects one by one: all of them, since what has that name may be what the store reads them from, and not be right any more.
func (s *Store) addWhole(b []byte, l []api.Object) error {
	if len(l) == 0 {
		return nil
	}
	err := s.addPack(b)
	if errors.Is(err, errTaken) || errors.Is(err, api.ErrIdx) {
		return s.addLoose(l)
	}
	return err
}

// addPack writes a pack that needs no bases, and its index, as far as they are not there: errTaken, if one of their names is taken.
func (s *Store) addPack(b []byte) error {
	places, err := pack.Places(b, nil)
	if err != nil {
		return err
	}
	sum := sumOf(b)
	idx, err := pack.WriteIdx(places, sum)
	if err != nil {
		return err
	}
	lacking, err := s.lacking(file{packName(sum), b}, file{idxName(sum), idx})
	if err != nil {
		return err
	}
	if err := s.lay(lacking...); err != nil {
		return err
	}
	if err := s.settle(); err != nil {
		return err
	}
	s.packs[sum] = newPile(b, places)
	return nil
}

// replacePack writes a pack whose name is taken. Its objects are laid one by one ahead of it, since what has that name may be what the store reads them from.
func (s *Store) replacePack(b []byte, l []api.Object) error {
	if err := s.addLoose(l); err != nil {
		return err
	}
	sum := sumOf(b)
	delete(s.packs, sum)
	for _, name := range []string{idxName(sum), packName(sum)} {
		if err := s.remove(name); err != nil && !errors.Is(err, api.ErrFile) {
			return err
		}
	}
	return s.addPack(b)
}

// dropAllBut lets the pack of that SHA-1, if there is one, be all that there is.
func (s *Store) dropAllBut(sum api.ID) error {
	kept, there := s.packs[sum]
	clear(s.loose)
	clear(s.packs)
	if there {
		s.packs[sum] = kept
	}
	for _, name := range s.disk.List() {
		used := there && (name == packName(sum) || name == idxName(sum))
		if used || !strings.HasPrefix(name, root) {
			continue
		}
		if err := s.remove(name); err != nil {
			return err
		}
	}
	return s.disk.SyncDir()
}
