package repo_test

import (
	"slices"
	"testing"

	"gitlike/api"
	"gitlike/graph"
	"gitlike/pack"
	"gitlike/repo"
	"gitlike/store"
	"gitlike/wire"
)

// bytesOf wants a call to answer bytes.
func bytesOf(t *testing.T, what string, b []byte, err error) []byte {
	t.Helper()
	if err != nil || len(b) == 0 {
		t.Fatalf("%s: %q, %v", what, b, err)
	}
	return b
}

// noBytes wants a call to answer that error, and no bytes.
func noBytes(t *testing.T, what string, b []byte, err error, want api.Errno) {
	t.Helper()
	if len(b) > 0 || api.Tell(err) != want {
		t.Errorf("%s: %q, %v for %d", what, b, err, want)
	}
}

func offerOf(t *testing.T, r *repo.Repo) []byte {
	t.Helper()
	b, err := r.Offer()
	return bytesOf(t, "Offer", b, err)
}

// anOffer is one of refs, in whatever order they are, without Head.
func anOffer(t *testing.T, l ...api.Ref) []byte {
	t.Helper()
	l = slices.SortedFunc(slices.Values(l), func(x, y api.Ref) int { return slices.Compare([]byte(x.Name), []byte(y.Name)) })
	b, err := wire.WriteOffer(api.Offer{Refs: l})
	return bytesOf(t, "WriteOffer", b, err)
}

func ref(name string, id api.ID) api.Ref { return api.Ref{Name: name, ID: id} }

func aWant(t *testing.T, want []api.ID, have ...api.ID) []byte {
	t.Helper()
	b, err := wire.WriteWant(want, have)
	return bytesOf(t, "WriteWant", b, err)
}

func aPush(t *testing.T, pack []byte, l ...api.Change) []byte {
	t.Helper()
	b, err := wire.WritePush(l, pack)
	return bytesOf(t, "WritePush", b, err)
}

// aPack is one of objects, which needs no bases.
func aPack(t *testing.T, l ...api.Object) []byte {
	t.Helper()
	b, err := pack.Write(l)
	return bytesOf(t, "pack.Write", b, err)
}

// packed is the ids of a pack's objects, by their bytes; bases is what its deltas may stand on.
func packed(t *testing.T, b []byte, bases []api.Object) []api.ID {
	t.Helper()
	l, err := pack.Read(b, bases)
	done(t, "pack.Read", err)
	var ids []api.ID
	for _, o := range l {
		ids = append(ids, idOf(t, o))
	}
	sortIDs(ids)
	return ids
}

func sortIDs(l []api.ID) {
	slices.SortFunc(l, func(x, y api.ID) int { return slices.Compare(x[:], y[:]) })
}

// objectsOf is those objects of a repository that ids reach.
func objectsOf(t *testing.T, r *repo.Repo, from ...api.ID) []api.Object {
	t.Helper()
	all, err := r.Objects()
	done(t, "Objects", err)
	ids, err := graph.Closure(all, from)
	done(t, "Closure", err)
	return slices.DeleteFunc(all, func(o api.Object) bool { return !slices.Contains(ids, idOf(t, o)) })
}

// without is a list without what is in another one.
func without(l, other []api.ID) []api.ID {
	return slices.DeleteFunc(slices.Clone(l), func(id api.ID) bool { return slices.Contains(other, id) })
}

// fetch fetches all of one repository into another one, and tells how many objects were sent.
func fetch(t *testing.T, from, to *repo.Repo, remote string) int {
	t.Helper()
	offer := offerOf(t, from)
	want, err := to.Wants(offer)
	if api.Tell(err) == api.ErrNothing {
		done(t, "Fetched", to.Fetched(remote, offer, nil, bob))
		return 0
	}
	bytesOf(t, "Wants", want, err)
	b, err := from.Upload(want)
	bytesOf(t, "Upload", b, err)
	bases, err := to.Objects()
	done(t, "Objects", err)
	sent := packed(t, b, bases)
	done(t, "Fetched", to.Fetched(remote, offer, b, bob))
	return len(sent)
}

// pushTo is what a repository sends to set a branch of another one.
func pushTo(t *testing.T, from, to *repo.Repo, branch string, force bool) []byte {
	t.Helper()
	b, err := from.Pushes(offerOf(t, to), branch, force)
	return bytesOf(t, "Pushes of "+branch, b, err)
}

// push pushes a branch, and tells what became of it: the error of Pushes, or the status.
func push(t *testing.T, from, to *repo.Repo, branch string, force bool) api.Errno {
	t.Helper()
	b, err := from.Pushes(offerOf(t, to), branch, force)
	if err != nil {
		return api.Tell(err)
	}
	return receives(t, to, b)[0].Err
}

// receives is the status of all that was sent.
func receives(t *testing.T, r *repo.Repo, push []byte) []api.Status {
	t.Helper()
	b, err := r.Receive(push)
	l, err := wire.ReadStatus(bytesOf(t, "Receive", b, err))
	done(t, "ReadStatus", err)
	return l
}

// receiveOne is the status of a change alone, with a pack.
func receiveOne(t *testing.T, r *repo.Repo, pack []byte, x api.Change) api.Errno {
	t.Helper()
	l := receives(t, r, aPush(t, pack, x))
	if len(l) != 1 || l[0].Name != x.Name {
		t.Fatalf("the status of %s: %v", x.Name, l)
	}
	return l[0].Err
}

// clone makes a repository of another one, whose branch main is in use.
func clone(t *testing.T, from *repo.Repo) (*api.Disk, *repo.Repo) {
	t.Helper()
	d, r := create(t)
	fetch(t, from, r, "o")
	branch(t, r, "main", "refs/remotes/o/main")
	return d, r
}

// sender is a repository of all sorts, which others fetch from and push to.
func sender(t *testing.T) (*api.Disk, *repo.Repo) {
	t.Helper()
	d := world(t)
	return d, open(t, d)
}

// refID is what a ref stands for.
func refID(t *testing.T, r *repo.Repo, name string) api.ID {
	t.Helper()
	for _, x := range r.Refs() {
		if x.Name == name {
			return x.ID
		}
	}
	t.Fatalf("%s is not there", name)
	return nought
}

// addPack adds a pack to a disk that no repository uses now.
func addPack(t *testing.T, d *api.Disk, b []byte) {
	t.Helper()
	s, err := store.Open(d)
	done(t, "store.Open", err)
	_, err = s.AddPack(b)
	done(t, "AddPack", err)
}
