package refs

import (
	"errors"
	"slices"
	"strings"

	"gitlike/api"
	"gitlike/wholefile"
)

const (
	fileName = "packed-refs" // all refs and their logs are in this one: so what a call changes is all there, or not at all
	newEnd   = ".new"        // of files that are not whole yet
	newName  = fileName + newEnd
)

// Open opens the refs of a disk.
func Open(d *api.Disk) (*Refs, error) {
	if d == nil {
		return nil, api.ErrDisk
	}
	r := &Refs{disk: d}
	if err := r.find(); err != nil {
		return nil, err
	}
	// Whoever wrote the file may have failed before it was safe. What is told now must be there the next time too.
	if err := r.settle(); err != nil {
		return nil, err
	}
	return r, nil
}

// find reads what the disk has.
func (r *Refs) find() error {
	b, err := wholefile.Read(r.disk, fileName)
	none := errors.Is(err, api.ErrFile)
	switch {
	case err != nil && !none:
		return err
	case slices.ContainsFunc(r.disk.List(), isForeign):
		return api.ErrCorrupt
	case none:
		r.all = table{}
		return nil
	}
	r.all, r.goesOn, err = readBlocks(b)
	return err
}

// isForeign tells whether a file has a name that only refs may give, and do not. Those that are not whole yet mean nothing, whosever they are.
func isForeign(name string) bool {
	if strings.HasSuffix(name, newEnd) {
		return false
	}
	return name == headName || strings.HasPrefix(name, under+"/") || strings.HasPrefix(name, "logs/")
}

// add writes steps to the disk, and tells from then on what is behind them.
func (r *Refs) add(steps []step, next table) error {
	if !r.goesOn {
		return r.writeAnew(next)
	}
	if err := r.settleAgain(); err != nil {
		return err
	}
	err := r.disk.Append(fileName, block(writeSteps(steps)))
	if errors.Is(err, api.ErrFile) {
		// Others have removed the file.
		return r.writeAnew(next)
	}
	if err != nil {
		return err
	}
	return r.tell(next)
}

// writeAnew writes a table to the disk, in the place of all that is there, and tells it from then on. The new file is whole and safe before it gets its name: so the name never stands for half a file.
func (r *Refs) writeAnew(next table) error {
	if err := r.settleAgain(); err != nil {
		return err
	}
	err := wholefile.Write(r.disk, newName, block(writeSteps(next.steps())))
	if err == nil {
		err = r.disk.Rename(newName, fileName)
	}
	if err != nil {
		_ = r.disk.Remove(newName) // if this fails too, the next one that needs the name removes it
		return err
	}
	r.goesOn = true
	return r.tell(next)
}

// tell lets a table be what is told, since the file has it, and makes it safe.
func (r *Refs) tell(next table) error {
	r.all = next
	if err := r.settle(); err != nil {
		_ = r.settle() // if the disk fails for a moment only, what is told is safe after all
		return err
	}
	return nil
}

// settleAgain makes safe what a call that failed has left. Else a crash could bring back what was before that call, though another one has begun with what was behind it.
func (r *Refs) settleAgain() error {
	if !r.unsure {
		return nil
	}
	return r.settle()
}

// settle makes the file safe, its bytes and its name.
func (r *Refs) settle() error {
	err := r.disk.Sync(fileName)
	if err == nil || errors.Is(err, api.ErrFile) {
		err = r.disk.SyncDir()
	}
	r.unsure = err != nil
	return err
}
