package repo_test

import (
	"fmt"
	"slices"
	"testing"

	"gitlike/api"
	"gitlike/repo"
)

// both wants two repositories to tell the same of a commit: its files, and all commits that it reaches.
func both(t *testing.T, what string, one *repo.Repo, name string, other *repo.Repo, otherName string) {
	t.Helper()
	files, err := one.Files(name)
	done(t, what+": Files", err)
	otherFiles, err := other.Files(otherName)
	done(t, what+": Files", err)
	if listed(files) != listed(otherFiles) {
		t.Errorf("%s: %s has %s, %s has %s", what, name, listed(files), otherName, listed(otherFiles))
	}
	log, err := one.Log(name)
	done(t, what+": Log", err)
	logs(t, other, otherName, log...)
}

// TestClone: P16, a clone is the whole: all that branches and tags reach, to the byte; of a repository whose objects lie one by one, and in a pack.
func TestClone(t *testing.T) {
	serverDisk, server := sender(t)
	for range 2 {
		d, r := create(t)
		if n := fetch(t, server, r, "o"); n != len(reached(t, server, idsOf(server)...)) {
			t.Errorf("%d objects", n)
		}
		hasObjects(t, "a clone", r, reached(t, server, idsOf(server)...)...)
		for _, x := range objectsOf(t, server, idsOf(server)...) {
			if o := get(t, r, idOf(t, x)); o.Kind != x.Kind || string(o.Data) != string(x.Data) {
				t.Errorf("%v for %v", o, x)
			}
		}
		r = open(t, d)
		for _, name := range []string{"main", "side", "ahead"} {
			both(t, name, server, name, r, "refs/remotes/o/"+name)
		}
		both(t, "v", server, "v", r, "v")
		is(t, "Check", r.Check(), api.OK)
		done(t, "Collect", r.Collect())
		hasObjects(t, "collected", r, reached(t, server, idsOf(server)...)...)
		done(t, "Collect", server.Collect())
		server = open(t, serverDisk)
	}
}

// idsOf is what a repository's branches and tags stand for.
func idsOf(r *repo.Repo) []api.ID {
	var l []api.ID
	for _, x := range r.Refs() {
		l = append(l, x.ID)
	}
	return l
}

// TestCloneNothing: a clone of a new repository.
func TestCloneNothing(t *testing.T) {
	_, server := create(t)
	d, r := create(t)
	unchanged(t, "nothing", r, d, func() {
		if n := fetch(t, server, r, "o"); n != 0 {
			t.Errorf("%d objects", n)
		}
	})
}

// TestFetchNumbers: the document's example, one commit of one file sends three objects, and the next fetch none.
func TestFetchNumbers(t *testing.T) {
	_, server := create(t)
	_, r := create(t)
	commit(t, server, "f", "1")
	for _, want := range []int{3, 0, 0} {
		if n := fetch(t, server, r, "o"); n != want {
			t.Errorf("%d objects for %d", n, want)
		}
	}
	commit(t, server, "f", "1", "g", "1")
	if n := fetch(t, server, r, "o"); n != 2 {
		t.Errorf("%d objects", n)
	}
}

// TestToAndFro: P16, two who fetch, merge and push by turns, opened again each time: both have the same, and all commits of both.
func TestToAndFro(t *testing.T) {
	serverDisk, server := create(t)
	commit(t, server, "f", ten)
	d, r := clone(t, server)
	made := []api.ID{refID(t, server, "HEAD")}
	for i := range 8 {
		server, r = open(t, serverDisk), open(t, d)
		made = append(made, commit(t, server, "f", ten, fmt.Sprint("server", i), "1"))
		made = append(made, commitOn(t, r, fmt.Sprint("client", i)))
		if e := push(t, r, server, "main", false); e != api.ErrForward {
			t.Fatalf("push: %v", e)
		}
		fetch(t, server, r, "o")
		made = append(made, merged(t, r, "refs/remotes/o/main"))
		if e := push(t, r, server, "main", false); e != 0 {
			t.Fatalf("push: %v", e)
		}
		if e := push(t, r, server, "main", false); e != api.ErrNothing {
			t.Fatalf("push: %v", e)
		}
		both(t, "behind a push", r, "HEAD", server, "HEAD")
		l, err := server.Log("HEAD")
		done(t, "Log", err)
		for _, id := range made {
			if !slices.Contains(l, id) {
				t.Errorf("%x is lost", id)
			}
		}
		is(t, "Check", server.Check(), api.OK)
		is(t, "Check", r.Check(), api.OK)
		if i%3 == 2 {
			done(t, "Collect", r.Collect())
			done(t, "Collect", server.Collect())
		}
	}
}

// commitOn commits the files of HEAD and one more.
func commitOn(t *testing.T, r *repo.Repo, path string) api.ID {
	t.Helper()
	l, err := r.Files("HEAD")
	done(t, "Files", err)
	id, err := r.Commit(append(l, texts(path, path)...), bob, "a message\n")
	done(t, "Commit", err)
	return id
}

// TestThree: P16, two clients of one server, by turns; each has in the end what all have made.
func TestThree(t *testing.T) {
	serverDisk, server := create(t)
	commit(t, server, "f", ten)
	disks := make([]*api.Disk, 2)
	for i := range disks {
		disks[i], _ = clone(t, server)
	}
	var made []api.ID
	for i := range 12 {
		server = open(t, serverDisk)
		r := open(t, disks[i%2])
		made = append(made, commitOn(t, r, fmt.Sprintf("%d/%d", i%2, i)))
		e := push(t, r, server, "main", false)
		if i > 0 && e != api.ErrForward || i == 0 && e != 0 {
			t.Fatalf("push: %v", e)
		}
		fetch(t, server, r, "o")
		if i > 0 {
			merged(t, r, "refs/remotes/o/main")
			if e := push(t, r, server, "main", false); e != 0 {
				t.Fatalf("push: %v", e)
			}
		}
		both(t, "behind a push", r, "HEAD", server, "main")
		// One fetches from the other one, too, and finds there what the server had.
		other := open(t, disks[(i+1)%2])
		fetch(t, r, other, "peer")
		both(t, "from the other one", r, "HEAD", other, "refs/remotes/peer/main")
		if n := fetch(t, server, other, "o"); n != 0 {
			t.Errorf("%d objects", n)
		}
		is(t, "Check", other.Check(), api.OK)
		if i%5 == 4 {
			done(t, "Collect", other.Collect())
		}
	}
	l, err := open(t, serverDisk).Log("HEAD")
	done(t, "Log", err)
	for _, id := range made {
		if !slices.Contains(l, id) {
			t.Errorf("%x is lost", id)
		}
	}
	shows(t, open(t, disks[0]), "refs/remotes/o/main", "0/0", "0/0", "0/10", "0/10", "0/2", "0/2", "0/4", "0/4", "0/6", "0/6", "0/8", "0/8",
		"1/1", "1/1", "1/11", "1/11", "1/3", "1/3", "1/5", "1/5", "1/7", "1/7", "1/9", "1/9", "f", ten)
}

// TestForced: a push by force takes a branch back; the server's log still has what was there.
func TestForced(t *testing.T) {
	serverDisk, server := create(t)
	a := commit(t, server, "f", "1")
	_, r := clone(t, server)
	b := commit(t, server, "f", "2")
	c := commit(t, r, "f", "3")
	if e := push(t, r, server, "main", false); e != api.ErrForward {
		t.Errorf("%v", e)
	}
	if e := push(t, r, server, "main", true); e != 0 {
		t.Errorf("%v", e)
	}
	logs(t, server, "main", c, a)
	done(t, "Collect", server.Collect())
	server = open(t, serverDisk)
	logs(t, server, hex(b), b, a)
	reflog(t, server, "refs/heads/main", 3, api.LogEntry{Old: b, New: c, Text: "push"})
	// Who has fetched before sees that it went back.
	_, other := clone(t, server)
	branch(t, server, "kept", hex(b))
	fetch(t, server, other, "o")
	both(t, "kept", server, "kept", other, "refs/remotes/o/kept")
}

// TestOfferUnsure: 14.7, behind a call that failed Offer tells what is there, or that the disk fails still.
func TestOfferUnsure(t *testing.T) {
	w := world(t)
	for after := 0; ; after++ {
		d := w.Copy()
		r := open(t, d)
		d.Fail(after, forever)
		if _, err := r.Commit(texts("f", "new"), ann, "m"); api.Tell(err) != api.ErrDisk {
			done(t, "Commit", err)
			break
		}
		b, err := r.Offer()
		noBytes(t, "Offer", b, err, api.ErrDisk)
		d.Fail(0, 0)
		if string(offerOf(t, r)) != string(offerOf(t, open(t, d))) {
			t.Error("it offers something else than one that is opened")
		}
	}
}
