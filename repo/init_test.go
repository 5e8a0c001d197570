package repo_test

import (
	"testing"

	"gitlike/api"
	"gitlike/repo"
)

// refused wants neither Init nor Open to answer a repository.
func refused(t *testing.T, what string, r *repo.Repo, err error, want api.Errno) {
	t.Helper()
	if r != nil || api.Tell(err) != want {
		t.Errorf("%s: %v, %v for %d", what, r, err, want)
	}
}

// TestInit: 13.1, of an empty disk.
func TestInit(t *testing.T) {
	d := roomy()
	r, err := repo.Open(d)
	refused(t, "Open of nothing", r, err, api.ErrRepo)
	if len(d.List()) > 0 {
		t.Errorf("Open makes files: %q", d.List())
	}
	made, err := repo.Init(d)
	done(t, "Init", err)
	for _, r := range []*repo.Repo{made, open(t, d), open(t, d.Copy())} {
		if name, err := r.Head(); name != "main" || err != nil {
			t.Errorf("Head: %q, %v", name, err)
		}
		if l := r.Refs(); len(l) > 0 {
			t.Errorf("Refs: %v", l)
		}
		if l, err := r.Reflog("HEAD"); len(l) > 0 || err != nil {
			t.Errorf("Reflog: %v, %v", l, err)
		}
		hasObjects(t, "a new one", r)
		is(t, "Check", r.Check(), api.OK)
	}
	unchanged(t, "Init again", made, d, func() {
		r, err := repo.Init(d)
		refused(t, "Init again", r, err, api.ErrRepo)
	})
}

// TestInitSafe: 13.1 and 13.9, a repository that was made stays there.
func TestInitSafe(t *testing.T) {
	for dir := range uint(5) {
		d, _ := create(t)
		d.Crash(dir, 0)
		if name, err := open(t, d).Head(); name != "main" || err != nil {
			t.Errorf("%q, %v", name, err)
		}
	}
}

// TestInitWithObjects: 13.1, of a disk that has objects alone.
func TestInitWithObjects(t *testing.T) {
	d := roomy()
	id := lay(t, d, blob("x"))
	r, err := repo.Open(d)
	refused(t, "Open", r, err, api.ErrRepo)
	r, err = repo.Init(d)
	done(t, "Init", err)
	hasObjects(t, "what was there", r, id)
	made := commit(t, r, "f", "1")
	shows(t, r, "HEAD", "f", "1")
	logs(t, open(t, d), "main", made)
}

// TestInitWithRefs: 13.1, of a disk that has refs alone, where HEAD leads nowhere.
func TestInitWithRefs(t *testing.T) {
	for _, name := range []string{"refs/heads/main", "refs/heads/other", "refs/tags/v", "HEAD"} {
		d := roomy()
		id := lay(t, d, blob("x"), tree(t), commitObject(t, idOf(t, tree(t))))
		layRef(t, d, name, id)
		r, err := repo.Open(d)
		refused(t, "Open with "+name, r, err, api.ErrRepo)
		r, err = repo.Init(d)
		done(t, "Init with "+name, err)
		if head, err := r.Head(); head != "main" || err != nil {
			t.Errorf("%s: Head: %q, %v", name, head, err)
		}
		if name == "HEAD" {
			stands(t, r, "HEAD", nought) // it leads on now, and keeps its log
			reflog(t, r, "HEAD", 1, api.LogEntry{New: id, Who: bob, Text: "laid"})
		} else {
			stands(t, r, name, id)
		}
		if name == "refs/heads/main" {
			logs(t, r, "HEAD", id)
		}
		tellsTheSame(t, name, r, d)
		refuses, err := repo.Init(d)
		refused(t, "Init again", refuses, err, api.ErrRepo)
	}
}

// TestInitWhereHeadLeads: 13.1, HEAD leads to a ref, wherever, and be it not there: that is a repository.
func TestInitWhereHeadLeads(t *testing.T) {
	for target, head := range map[string]string{
		"refs/heads/main": "main", "refs/heads/a/b": "a/b", "refs/tags/v": "refs/tags/v",
		"refs/headsx": "refs/headsx", "refs/heads": "refs/heads", "refs/heads/refs/heads/x": "refs/heads/x",
	} {
		d := roomy()
		layLink(t, d, "HEAD", target)
		r, err := repo.Init(d)
		refused(t, "Init where HEAD leads to "+target, r, err, api.ErrRepo)
		r = open(t, d)
		if got, err := r.Head(); got != head || err != nil {
			t.Errorf("Head, that leads to %s: %q, %v", target, got, err)
		}
		id := commit(t, r, "f", "1")
		stands(t, r, target, id)
		tellsTheSame(t, target, r, d)
	}
}

// TestOpenSpoilt: 13.1, the errors of both chapters' Open, the objects' first; and ahead of ErrRepo.
func TestOpenSpoilt(t *testing.T) {
	for name, open := range map[string]func(d *api.Disk) (*repo.Repo, error){"Init": repo.Init, "Open": repo.Open} {
		r, err := open(nil)
		refused(t, name+" of no disk", r, err, api.ErrDisk)
		r, err = open(&api.Disk{})
		if r != nil || err == nil {
			t.Errorf("%s of a disk that was not made: %v, %v", name, r, err)
		}
		for _, file := range []string{"HEAD", "refs/heads/main", "logs/HEAD", "packed-refs"} {
			d := roomy()
			lay(t, d, blob("x"), blob("y"))
			done(t, "Create", d.Create(file))
			r, err = open(d)
			refused(t, name+" with "+file, r, err, api.ErrCorrupt)
			for after := range 2 { // each reads an object
				d.Fail(after, 1)
				r, err = open(d)
				refused(t, name+" with "+file+" and a disk that fails", r, err, api.ErrDisk)
			}
		}
	}
}

// TestOpenBroken: 13.1 and 13.9, every operation of Init and of Open fails, alone or with all behind it.
func TestOpenBroken(t *testing.T) {
	laid := roomy()
	lay(t, laid, blob("x"), blob("y"))
	for _, times := range []int{1, 2, forever} {
		for after := 0; ; after++ {
			d := laid.Copy()
			d.Fail(after, times)
			r, err := repo.Init(d)
			d.Fail(0, 0)
			if err == nil {
				tellsTheSame(t, "Init", r, d)
				break
			}
			refused(t, "Init", r, err, api.ErrDisk)
			// Whether it was made all the same or not, it is so the next time too.
			_, err = repo.Open(d)
			d.Crash(0, 0)
			if _, again := repo.Open(d); api.Tell(again) != api.Tell(err) {
				t.Errorf("Open behind Init, and behind a crash: %v, %v", err, again)
			}
		}
		for after := 0; ; after++ {
			d := laid.Copy()
			layLink(t, d, "HEAD", "refs/heads/x")
			d.Fail(after, times)
			r, err := repo.Open(d)
			d.Fail(0, 0)
			if err == nil {
				break
			}
			refused(t, "Open", r, err, api.ErrDisk)
			open(t, d)
		}
	}
}

// TestInitWithoutRoom: 13.1, Init finds no room.
func TestInitWithoutRoom(t *testing.T) {
	for room := range 1000 {
		d := api.NewDisk(room)
		r, err := repo.Init(d)
		if err == nil {
			tellsTheSame(t, "Init", r, d)
			return
		}
		refused(t, "Init", r, err, api.ErrRoom)
		r, err = repo.Open(d)
		refused(t, "Open", r, err, api.ErrRepo)
	}
	t.Error("there is never room enough")
}
