package repo_test

import (
	"strings"
	"testing"

	"gitlike/api"
	"gitlike/repo"
	"gitlike/wire"
)

// wantsJust wants Wants to answer just that, to the byte, and to change nothing.
func wantsJust(t *testing.T, what string, r *repo.Repo, d *api.Disk, offer []byte, want []api.ID, have ...api.ID) {
	t.Helper()
	expected := string(aWant(t, want, have...))
	unchanged(t, what, r, d, func() {
		got, err := r.Wants(offer)
		if string(bytesOf(t, what, got, err)) != expected {
			t.Errorf("%s: %q for %q", what, got, expected)
		}
	})
}

// wantsRefused wants Wants to answer that error alone, and to change nothing.
func wantsRefused(t *testing.T, what string, r *repo.Repo, d *api.Disk, offer []byte, want api.Errno) {
	t.Helper()
	unchanged(t, what, r, d, func() {
		b, err := r.Wants(offer)
		noBytes(t, what, b, err, want)
	})
}

// TestWantsNoOffer: 14.2, bytes that are no offer.
func TestWantsNoOffer(t *testing.T) {
	d, r := create(t)
	commit(t, r, "f", "1")
	_, server := sender(t)
	offer := offerOf(t, server)
	for what, b := range map[string][]byte{"nothing": nil, "cut": offer[:len(offer)-1], "without its front": offer[1:], "noise": []byte("noise"), "0001": []byte("0001")} {
		want := api.ErrWire
		if what == "nothing" {
			want = api.ErrTalk
		}
		wantsRefused(t, what, r, d, b, want)
	}
	push := aPush(t, nil, api.Change{Name: "refs/heads/x"})
	for what, b := range map[string][]byte{"a want": aWant(t, nil), "a push": push, "two offers": append(offer, offer...), "no flush": offer[:len(offer)-4]} {
		wantsRefused(t, what, r, d, b, api.ErrTalk)
	}
}

// TestWantsNothing: 14.2, all that is offered is whole: refs need not reach it.
func TestWantsNothing(t *testing.T) {
	d, r := create(t)
	wantsRefused(t, "an offer of nothing", r, d, anOffer(t), api.ErrNothing)
	_, fresh := create(t)
	wantsRefused(t, "an offer of Head alone", r, d, offerOf(t, fresh), api.ErrNothing)
	a := commit(t, r, "f", "1", "g/h", "2")
	left := lay(t, d, commitObject(t, lay(t, d, tree(t)), a))
	r = open(t, d)
	wantsRefused(t, "what is there", r, d, offerOf(t, r), api.ErrNothing)
	wantsRefused(t, "what is left over", r, d, anOffer(t, ref("refs/heads/x", left), ref("refs/tags/b", idOf(t, blob("1")))), api.ErrNothing)
	_, server := sender(t)
	d, r = clone(t, server)
	wantsRefused(t, "what was fetched", r, d, offerOf(t, server), api.ErrNothing)
}

// TestWants: 14.2, what is not there, in part there, there but not whole: in the order of the offer, each id once; of all refs that are offered.
func TestWants(t *testing.T) {
	d, r := create(t)
	lost := []api.ID{{9}, {5}, {7}}
	offer := anOffer(t, ref("refs/heads/a", lost[0]), ref("refs/heads/b", lost[1]), ref("refs/heads/c", lost[0]), ref("refs/tags/v", lost[2]), ref("refs/x/1", lost[1]))
	wantsJust(t, "nothing is there", r, d, offer, lost)
	a := commit(t, r, "f", "1", "g/h", "2")
	wantsJust(t, "others are there", r, d, offer, lost, a)
	offer = anOffer(t, ref("HEAD", lost[2]), ref("refs/heads/a", a), ref("refs/heads/b", lost[1]), ref("refs/heads/c", a), ref("refs/y/1", lost[0]), ref("refs/z/1", nought))
	wantsJust(t, "some are there", r, d, offer, []api.ID{lost[2], lost[1], lost[0], nought}, a)
	// What is there without all that it reaches is wanted.
	root := lay(t, d, tree(t, api.TreeEntry{Mode: api.FileMode, Name: "f", ID: lost[0]}))
	half := lay(t, d, commitObject(t, root, a))
	over := lay(t, d, commitObject(t, idOf(t, tree(t)), half))
	tagged := lay(t, d, tagObject(t, "t", lost[1], api.Commit))
	wrong := lay(t, d, api.Object{Kind: api.Commit, Data: []byte("no commit")})
	lay(t, d, tree(t))
	r = open(t, d)
	offer = anOffer(t, ref("refs/heads/a", over), ref("refs/heads/b", half), ref("refs/heads/c", a), ref("refs/heads/d", root), ref("refs/heads/e", wrong), ref("refs/tags/t", tagged), ref("refs/tags/u", half))
	wantsJust(t, "what is not whole", r, d, offer, []api.ID{over, half, root, wrong, tagged}, a)
}

// TestWantsHave: 14.2, it has what its own refs tell, all of them, whole or not, each once, by their bytes.
func TestWantsHave(t *testing.T) {
	d, r := create(t)
	a := commit(t, r, "f", "1")
	branch(t, r, "x", "HEAD")
	b := commit(t, r, "f", "2")
	v := tag(t, r, "v", "x")
	lost := api.ID{0, 3}
	for name, id := range map[string]api.ID{"refs/remotes/o/main": a, "refs/remotes/o/x": lost, "refs/y": b, "refs/z": {0xff}} {
		layRef(t, d, name, id)
	}
	layLink(t, d, "refs/heads/dangling", "refs/heads/none")
	r = open(t, d)
	have := []api.ID{a, b, v, lost, {0xff}}
	sortIDs(have)
	wantsJust(t, "what refs tell", r, d, anOffer(t, ref("refs/heads/n", api.ID{1}), ref("refs/heads/o", a)), []api.ID{{1}}, have...)
	// What it has is told, even if it is wanted too.
	wantsJust(t, "what it has, and is not whole", r, d, anOffer(t, ref("refs/heads/n", lost)), []api.ID{lost}, have...)
}

// TestWantsSpoilt: 14.2, a bit of an object turned behind Open: it is whole no more, or right all the same.
func TestWantsSpoilt(t *testing.T) {
	for bit := range uint(40) {
		d, r := create(t)
		a := commit(t, r, "f", "1")
		offer := offerOf(t, r)
		for _, name := range d.List() {
			if strings.HasPrefix(name, "objects/") {
				d.Flip(name, bit*5)
			}
		}
		b, err := r.Wants(offer)
		if api.Tell(err) == api.ErrNothing {
			continue
		}
		want, have, err := wire.ReadWant(bytesOf(t, "Wants", b, err))
		if err != nil || len(want) != 1 || want[0] != a || len(have) != 1 || have[0] != a {
			t.Errorf("%x, %x, %v", want, have, err)
		}
	}
}

// TestWantsReadsOnce: of many ids that are not whole, and have much in common, each object is read once.
func TestWantsReadsOnce(t *testing.T) {
	d, _ := create(t)
	last := api.ID{1}
	root := lay(t, d, tree(t))
	var row []api.Object
	var offered []api.Ref
	for i := range 300 {
		row = append(row, commitObject(t, root, last))
		last = idOf(t, row[i])
		offered = append(offered, ref("refs/heads/"+hex(last), last))
	}
	addPack(t, d, aPack(t, row...))
	r := open(t, d)
	d.Fail(5000, forever)
	b, err := r.Wants(anOffer(t, offered...))
	want, _, err := wire.ReadWant(bytesOf(t, "Wants", b, err))
	if err != nil || len(want) != len(offered) {
		t.Errorf("%d, %v", len(want), err)
	}
}
