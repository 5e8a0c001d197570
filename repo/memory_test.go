package repo_test

import (
	"bytes"
	"fmt"
	"slices"
	"testing"

	"gitlike/api"
	"gitlike/repo"
)

// withRoom is a list with room behind it, and the whole of it.
func withRoom[T any](l []T, behind T) (list, whole []T) {
	whole = append(slices.Clone(l), behind, behind, behind)
	return whole[:len(l)], whole
}

// scribble writes over all of a slice, and over the room behind it.
func scribble[T any](l []T, with T) {
	l = l[:cap(l)]
	for i := range l {
		l[i] = with
	}
}

// TestFilesAreLeftAlone: what Commit is given, and the room behind it, is not changed, whether it is committed or refused; and is not kept.
func TestFilesAreLeftAlone(t *testing.T) {
	d, r := create(t)
	for _, given := range [][]api.File{
		texts("b", "2", "a/c", "same", "a/b", "same", "empty", ""),
		texts("b", "2", "a/c", "same", "a/b", "same", "empty", ""), // nothing new
		texts("z", "1", "a", "1", "a/b", "2"),
		texts("z", "1", "z", "2"),
		texts("z", string(make([]byte, api.MaxBlob+1))),
		nil,
	} {
		l, whole := withRoom(given, api.File{Path: "marked"})
		var rooms [][]byte
		for i := range l {
			data, room := withRoom(l[i].Data, 0xa5)
			l[i].Data = data
			rooms = append(rooms, room)
		}
		picture := func() string { return fmt.Sprintf("%v %v", whole, rooms) }
		was := picture()
		for _, message := range []string{"\x00", "m"} {
			r.Commit(l, ann, message)
			if picture() != was {
				t.Errorf("%.200s is changed to %.200s", was, picture())
			}
		}
		before := told(t, r)
		for i := range l {
			scribble(l[i].Data, 'x')
		}
		scribble(l, api.File{Path: "scribble"})
		if now := told(t, r); now != before {
			t.Errorf("it told\n%s, and now\n%s", before, now)
		}
		tellsTheSame(t, "scribbled", r, d)
	}
}

// isNew wants each answer of a call to be new: what is written into one is seen in no other.
func isNew[T any](t *testing.T, what string, call func() ([]T, error), write func(l []T)) {
	t.Helper()
	first, err := call()
	done(t, what, err)
	second, err := call()
	done(t, what, err)
	was := fmt.Sprintf("%v", second)
	write(first)
	third, err := call()
	done(t, what, err)
	if now, later := fmt.Sprintf("%v", second), fmt.Sprintf("%v", third); len(first) == 0 || now != was || later != was {
		t.Errorf("%s: %.300s is changed to %.300s, and told later as %.300s", what, was, now, later)
	}
}

// TestAnswersAreNew: lists, and the bytes in them.
func TestAnswersAreNew(t *testing.T) {
	d := world(t)
	for range 2 {
		r := open(t, d)
		before := told(t, r)
		isNew(t, "Files", func() ([]api.File, error) { return r.Files("HEAD") }, func(l []api.File) {
			for i := range l {
				scribble(l[i].Data, 'x')
			}
			scribble(l, api.File{Path: "scribble"})
		})
		isNew(t, "Objects", r.Objects, func(l []api.Object) {
			for i := range l {
				scribble(l[i].Data, 'x')
			}
			scribble(l, api.Object{})
		})
		isNew(t, "Log", func() ([]api.ID, error) { return r.Log("HEAD") }, func(l []api.ID) { scribble(l, api.ID{1}) })
		isNew(t, "Refs", func() ([]api.Ref, error) { return r.Refs(), nil }, func(l []api.Ref) { scribble(l, api.Ref{Name: "scribble"}) })
		isNew(t, "Reflog", func() ([]api.LogEntry, error) { return r.Reflog("HEAD") }, func(l []api.LogEntry) { scribble(l, api.LogEntry{Text: "scribble"}) })
		if now := told(t, r); now != before {
			t.Errorf("it told\n%s, and now\n%s", before, now)
		}
		tellsTheSame(t, "scribbled", r, d)
		done(t, "Collect", r.Collect())
	}
}

// TestReflogRoom: what is added to an answer does not get into the log.
func TestReflogRoom(t *testing.T) {
	d, r := create(t)
	commit(t, r, "f", "1")
	l, err := r.Reflog("HEAD")
	done(t, "Reflog", err)
	_ = append(l, api.LogEntry{Text: "mine"})
	id := commit(t, r, "f", "2")
	reflog(t, r, "HEAD", 2, api.LogEntry{Old: l[0].New, New: id, Who: ann, Text: "commit: a message"})
	tellsTheSame(t, "added", r, d)
}

// TestSameBytes: two files of the same bytes share no memory.
func TestSameBytes(t *testing.T) {
	d, r := create(t)
	commit(t, r, "a", "same", "b", "same", "c/d", "same")
	for range 2 {
		l, err := r.Files("HEAD")
		done(t, "Files", err)
		for i := range l {
			scribble(l[i].Data, byte(i))
		}
		for i := range l {
			if !bytes.Equal(l[i].Data, bytes.Repeat([]byte{byte(i)}, 4)) {
				t.Errorf("%d: %v", i, l[i].Data)
			}
		}
		done(t, "Collect", r.Collect())
		r = open(t, d)
	}
}

// TestTwoRepositories: two of them on two disks have nothing in common.
func TestTwoRepositories(t *testing.T) {
	d := world(t)
	one, copied := open(t, d), d.Copy()
	other := open(t, copied)
	was := told(t, other)
	for _, call := range []func(r *repo.Repo) error{
		func(r *repo.Repo) error { _, err := r.Commit(texts("x", "y"), bob, "m"); return err },
		func(r *repo.Repo) error { return r.Branch("x", "HEAD") },
		func(r *repo.Repo) error { return r.Switch("side") },
		func(r *repo.Repo) error { return r.Collect() },
	} {
		done(t, "a call", call(one))
		if now := told(t, other); now != was {
			t.Errorf("it told\n%s, and now\n%s", was, now)
		}
	}
}
