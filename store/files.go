package store

import (
	"bytes"
	"errors"
	"slices"

	"gitlike/api"
	"gitlike/wholefile"
)

// errTaken: a file of other bytes has a name that a pack, or its index, needs.
var errTaken = errors.New("store: a pack's name is taken")

// file is one that is to be on the disk.
type file struct {
	name  string
	bytes []byte
}

// readFile reads a whole file.
func (s *Store) readFile(name string) ([]byte, error) { return wholefile.Read(s.disk, name) }

// lacking tells which of the files are not there. Those that are may not be safe: whoever wrote them may have failed.
func (s *Store) lacking(files ...file) (l []file, err error) {
	for _, f := range files {
		b, err := s.readFile(f.name)
		switch {
		case errors.Is(err, api.ErrFile):
			l = append(l, f)
		case err != nil:
			return nil, err
		case !bytes.Equal(b, f.bytes):
			return nil, errTaken
		default:
			s.unsure[f.name] = struct{}{}
		}
	}
	return l, nil
}

// lay writes files, whatever has their names. All of them are whole and safe before the first one gets its name: so a name of a store never stands for half a file, and what finds no room leaves nothing behind.
func (s *Store) lay(files ...file) error {
	err := s.layAll(files)
	if err != nil {
		for i := range files {
			_ = s.disk.Remove(spareName(i)) // if this fails too, the next one that needs the name removes it
		}
	}
	return err
}

func (s *Store) layAll(files []file) error {
	for i, f := range files {
		if err := wholefile.Write(s.disk, spareName(i), f.bytes); err != nil {
			return err
		}
	}
	for i, f := range files {
		if err := s.disk.Rename(spareName(i), f.name); err != nil {
			return err
		}
		s.unsure[f.name] = struct{}{}
	}
	return nil
}

// remove removes a file.
func (s *Store) remove(name string) error {
	if err := s.disk.Remove(name); err != nil {
		return err
	}
	delete(s.unsure, name)
	return nil
}

// settle makes safe whatever may not be so. If it fails, the next call that adds something does it.
func (s *Store) settle() error {
	var names []string
	for name := range s.unsure {
		names = append(names, name)
	}
	slices.Sort(names)
	for _, name := range names {
		if err := s.disk.Sync(name); err != nil && !errors.Is(err, api.ErrFile) {
			return err
		}
	}
	if err := s.disk.SyncDir(); err != nil {
		return err
	}
	clear(s.unsure)
	return nil
}
