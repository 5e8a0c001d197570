package repo_test

import (
	"fmt"
	"slices"
	"testing"

	"gitlike/api"
	"gitlike/refs"
	"gitlike/repo"
	"gitlike/wire"
)

// offersJust wants Offer to answer just that, again and again, and to change nothing.
func offersJust(t *testing.T, what string, r *repo.Repo, d *api.Disk, want api.Offer) {
	t.Helper()
	b, err := wire.WriteOffer(want)
	bytesOf(t, "WriteOffer", b, err)
	unchanged(t, what, r, d, func() {
		for range 2 {
			if got := offerOf(t, r); string(got) != string(b) {
				t.Errorf("%s: %q for %q", what, got, b)
			}
		}
	})
}

// TestOfferNew: 14.1, of a new repository; to the byte.
func TestOfferNew(t *testing.T) {
	d, r := create(t)
	offersJust(t, "a new one", r, d, api.Offer{Head: "refs/heads/main"})
	if got := string(offerOf(t, r)); got != "0019head refs/heads/main\n0000" {
		t.Errorf("%q", got)
	}
}

// TestOfferUnborn: 14.1, HEAD leads to a branch that has no id yet, while others have.
func TestOfferUnborn(t *testing.T) {
	d, r := create(t)
	a := commit(t, r, "f", "1")
	layLink(t, d, "HEAD", "refs/heads/unborn")
	offersJust(t, "a branch to come", open(t, d), d, api.Offer{Head: "refs/heads/unborn", Refs: []api.Ref{ref("refs/heads/main", a)}})
}

// TestOfferRefs: 14.1, branches and tags are offered, whatever they stand for and wherever they lead, and nothing else.
func TestOfferRefs(t *testing.T) {
	d, r := create(t)
	a := commit(t, r, "f", "1")
	branch(t, r, "z", "HEAD")
	branch(t, r, "a/b", "HEAD")
	toSwitch(t, r, "a/b")
	b := commit(t, r, "f", "2")
	v := tag(t, r, "v", "z")
	lost, file := api.ID{7}, lay(t, d, blob("x"))
	for name, id := range map[string]api.ID{
		"refs/remotes/o/main": a, "refs/x": a, "refs/headsup/x": a, "refs/tagsdown/x": b, "refs/notes/tags/x": b,
		"refs/heads/lost": lost, "refs/tags/blob": file, "refs/tags/w/1": v,
	} {
		layRef(t, d, name, id)
	}
	layLink(t, d, "refs/heads/leads", "refs/remotes/o/main")
	layLink(t, d, "refs/tags/dangling", "refs/tags/none")
	layLink(t, d, "refs/heads/loop", "refs/heads/pool")
	layLink(t, d, "refs/heads/pool", "refs/heads/loop")
	want := []api.Ref{
		ref("refs/heads/a/b", b), ref("refs/heads/leads", a), ref("refs/heads/lost", lost), ref("refs/heads/main", a), ref("refs/heads/z", a),
		ref("refs/tags/blob", file), ref("refs/tags/v", v), ref("refs/tags/w/1", v),
	}
	offersJust(t, "branches and tags", open(t, d), d, api.Offer{Head: "refs/heads/a/b", Refs: want})
	// Where HEAD leads to is told, wherever that is; where that leads to is not.
	layLink(t, d, "HEAD", "refs/x")
	offersJust(t, "HEAD beside the branches", open(t, d), d, api.Offer{Head: "refs/x", Refs: want})
	layLink(t, d, "HEAD", "refs/heads/leads")
	offersJust(t, "HEAD at what leads on", open(t, d), d, api.Offer{Head: "refs/heads/leads", Refs: want})
}

// TestOfferMany: 14.1 and 12.3, as many refs as can be offered, and one more.
func TestOfferMany(t *testing.T) {
	d, r := create(t)
	a := commit(t, r, "f", "1")
	var l []api.Change
	for i := range api.MaxRefs {
		l = append(l, api.Change{Name: fmt.Sprintf("refs/%s/%03d", []string{"heads", "tags"}[i%2], i), New: a})
	}
	names, err := refs.Open(d)
	done(t, "refs.Open", err)
	done(t, "Update", names.Update(l[:api.MaxRefs-1], bob, "laid")) // beside main
	layRef(t, d, "refs/x/1", a)
	r = open(t, d)
	o, err := wire.ReadOffer(offerOf(t, r))
	if err != nil || len(o.Refs) != api.MaxRefs || !slices.IsSortedFunc(o.Refs, func(x, y api.Ref) int { return slices.Compare([]byte(x.Name), []byte(y.Name)) }) {
		t.Errorf("%d refs, %v", len(o.Refs), err)
	}
	branch(t, r, "one-more", "HEAD")
	unchanged(t, "one more", r, d, func() {
		b, err := r.Offer()
		noBytes(t, "one more", b, err, api.ErrTalk)
	})
}
