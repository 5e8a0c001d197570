// Package wholefile: files of a disk, each read and written as a whole.
package wholefile

import (
	"errors"
	"math"

	"gitlike/api"
)

// Read reads a file.
func Read(d *api.Disk, name string) ([]byte, error) { return d.ReadAt(name, 0, math.MaxInt) }

// Write writes a new file, and makes its bytes safe; its name is not, yet. One that an earlier call left behind under that name when it failed is removed.
func Write(d *api.Disk, name string, b []byte) error {
	err := create(d, name)
	if errors.Is(err, api.ErrFile) {
		if err = d.Remove(name); err == nil {
			err = create(d, name)
		}
	}
	if err != nil {
		return err
	}
	if err := d.Append(name, b); err != nil {
		return err
	}
	return d.Sync(name)
}

// create makes an empty file. A Disk that NewDisk has not made panics there: it has no place for names.
func create(d *api.Disk, name string) (err error) {
	defer func() {
		if recover() != nil {
			err = &api.FileError{Name: name, Err: api.ErrDisk}
		}
	}()
	return d.Create(name)
}
