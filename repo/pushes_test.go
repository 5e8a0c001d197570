package repo_test

import (
	"slices"
	"strings"
	"testing"

	"gitlike/api"
	"gitlike/pack"
	"gitlike/repo"
	"gitlike/wire"
)

// pushesJust wants Pushes to answer that change, and a pack of just what is reached from its New and not from what is had; its deltas may stand on what is in both, at most.
func pushesJust(t *testing.T, what string, r *repo.Repo, d *api.Disk, offer []byte, force bool, want api.Change, had ...api.ID) []byte {
	t.Helper()
	var b []byte
	unchanged(t, what, r, d, func() {
		var err error
		b, err = r.Pushes(offer, strings.TrimPrefix(want.Name, "refs/heads/"), force)
		bytesOf(t, what, b, err)
	})
	l, p, err := wire.ReadPush(b)
	if err != nil || len(l) != 1 || l[0] != want {
		t.Errorf("%s: %v, %v for %v", what, l, err, want)
	}
	sent := without(reached(t, r, want.New), reached(t, r, had...))
	if got := packed(t, p, objectsOf(t, r, had...)); !slices.Equal(got, sent) {
		t.Errorf("%s: %x for %x", what, got, sent)
	}
	return p
}

// pushRefused wants Pushes to answer that error alone.
func pushRefused(t *testing.T, what string, r *repo.Repo, d *api.Disk, offer []byte, branch string, force bool, want api.Errno) {
	t.Helper()
	unchanged(t, what, r, d, func() {
		b, err := r.Pushes(offer, branch, force)
		noBytes(t, what, b, err, want)
	})
}

// TestPushesName: 14.5, names that are none, ahead of all else; bytes that are no offer; branches that are not there.
func TestPushesName(t *testing.T) {
	d, r := create(t)
	tag(t, r, "v", hex(commit(t, r, "f", "1")))
	layRef(t, d, "refs/remotes/o/x", refID(t, r, "HEAD"))
	layLink(t, d, "refs/heads/dangling", "refs/heads/none")
	layLink(t, d, "refs/heads/loop", "refs/heads/pool")
	layLink(t, d, "refs/heads/pool", "refs/heads/loop")
	r = open(t, d)
	offer := offerOf(t, r)
	for _, force := range []bool{false, true} {
		for _, name := range []string{"", "a b", "a..b", "x/", "/x", ".x", "x.lock", "end.", "ü", strings.Repeat("n", 50)} {
			for _, b := range [][]byte{offer, offer[1:], nil} {
				pushRefused(t, "the name "+name, r, d, b, name, force, api.ErrName)
			}
		}
		for _, name := range []string{"main", "none"} {
			pushRefused(t, "cut", r, d, offer[:len(offer)-1], name, force, api.ErrWire)
			pushRefused(t, "nothing", r, d, nil, name, force, api.ErrTalk)
			pushRefused(t, "a want", r, d, aWant(t, nil), name, force, api.ErrTalk)
		}
		for _, name := range []string{"none", "main/x", "v", "refs/heads/main", "HEAD", "dangling", "loop", strings.Repeat("n", 49)} {
			pushRefused(t, "no branch "+name, r, d, offer, name, force, api.ErrNoRef)
			pushRefused(t, "no branch "+name, r, d, anOffer(t, ref("refs/heads/none", api.ID{1})), name, force, api.ErrNoRef)
		}
	}
}

// TestPushesNothing: 14.5, what is offered of that name is what is there, whole or not; of other names it does not count.
func TestPushesNothing(t *testing.T) {
	d, r := create(t)
	a := commit(t, r, "f", "1")
	branch(t, r, "side", "HEAD")
	layRef(t, d, "refs/heads/lost", api.ID{7})
	r = open(t, d)
	for _, force := range []bool{false, true} {
		pushRefused(t, "the same", r, d, offerOf(t, r), "main", force, api.ErrNothing)
		pushRefused(t, "the same, which is not whole", r, d, offerOf(t, r), "lost", force, api.ErrNothing)
		pushesJust(t, "others are the same", r, d, anOffer(t, ref("refs/heads/main/x", a), ref("refs/heads/mainx", a), ref("refs/tags/main", a)), force, api.Change{Name: "refs/heads/main", New: a}, a)
		pushesJust(t, "the same of another name", r, d, anOffer(t, ref("refs/heads/main", api.ID{8}), ref("refs/heads/side", a)), true, api.Change{Name: "refs/heads/main", Old: api.ID{8}, New: a}, a)
	}
}

// TestPushesNotWhole: 14.5, what is there reaches something that is missing, or not right: the error of 9.4, ahead of ErrForward.
func TestPushesNotWhole(t *testing.T) {
	d, r := create(t)
	a := commit(t, r, "f", "1")
	layRef(t, d, "refs/heads/lost", lay(t, d, commitObject(t, api.ID{8}, a)))
	layRef(t, d, "refs/heads/wrong", lay(t, d, commitObject(t, lay(t, d, api.Object{Kind: api.Tree, Data: []byte("no tree")}), a)))
	layRef(t, d, "refs/heads/gone", api.ID{9})
	r = open(t, d)
	for _, force := range []bool{false, true} {
		for _, old := range []api.ID{nought, a, {1}} {
			for name, want := range map[string]struct {
				err api.Errno
				at  api.ID
			}{"lost": {api.ErrMissing, api.ID{8}}, "wrong": {api.ErrTree, nought}, "gone": {api.ErrMissing, api.ID{9}}} {
				offer := anOffer(t, ref("refs/heads/"+name, old), ref("refs/heads/main", a))
				pushRefused(t, name, r, d, offer, name, force, want.err)
				if _, err := r.Pushes(offer, name, force); want.at != nought {
					isOf(t, name, err, want.err, want.at)
				}
			}
		}
	}
}

// TestPushesForward: 14.5, without force what is offered must be reached from what is there; nought, or nothing, always is.
func TestPushesForward(t *testing.T) {
	d, r := create(t)
	a := commit(t, r, "f", "1")
	b := commit(t, r, "f", "2")
	branch(t, r, "side", hex(a))
	c := commit(t, r, "f", "3")
	toSwitch(t, r, "side")
	e := commit(t, r, "f", "4")
	v := tag(t, r, "v", "main")
	main := func(old api.ID) []byte { return anOffer(t, ref("refs/heads/main", old)) }
	change := func(old api.ID) api.Change { return api.Change{Name: "refs/heads/main", Old: old, New: c} }
	for _, force := range []bool{false, true} {
		pushesJust(t, "not there", r, d, anOffer(t), force, change(nought))
		pushesJust(t, "nought", r, d, main(nought), force, change(nought))
		pushesJust(t, "behind", r, d, main(b), force, change(b), b)
		pushesJust(t, "far behind", r, d, main(a), force, change(a), a)
		pushesJust(t, "a file of it", r, d, main(idOf(t, blob("1"))), force, change(idOf(t, blob("1"))), idOf(t, blob("1")))
	}
	left := lay(t, d, commitObject(t, lay(t, d, tree(t)), c))
	half := lay(t, d, commitObject(t, api.ID{8}, a))
	r = open(t, d)
	for what, old := range map[string]api.ID{"beside": e, "ahead": left, "a tag of it": v} {
		pushRefused(t, what, r, d, main(old), "main", false, api.ErrForward)
		pushesJust(t, what+", by force", r, d, main(old), true, change(old), old)
	}
	for what, old := range map[string]api.ID{"unknown": {1}, "not whole": half} {
		pushRefused(t, what, r, d, main(old), "main", false, api.ErrForward)
		pushesJust(t, what+", by force", r, d, main(old), true, change(old))
	}
}

// TestPushesHas: 14.5, what is reached from all that is offered, of whatever name, is not sent, as far as it is whole here.
func TestPushesHas(t *testing.T) {
	d, r := create(t)
	a := commit(t, r, "f", "1", "g/h", "same")
	b := commit(t, r, "f", "2", "g/h", "same")
	branch(t, r, "side", hex(a))
	c := commit(t, r, "f", "3", "g/h", "same")
	toSwitch(t, r, "side")
	e := commit(t, r, "f", "3", "new", "4")
	v := tag(t, r, "v", hex(b))
	half := lay(t, d, commitObject(t, api.ID{8}, b))
	r = open(t, d)
	change := api.Change{Name: "refs/heads/main", New: c}
	for _, force := range []bool{false, true} {
		pushesJust(t, "a tag", r, d, anOffer(t, ref("refs/tags/v", v)), force, change, v)
		pushesJust(t, "another ref", r, d, anOffer(t, ref("refs/x/y", b)), force, change, b)
		pushesJust(t, "HEAD", r, d, anOffer(t, ref("HEAD", e)), force, change, e)
		pushesJust(t, "several", r, d, anOffer(t, ref("refs/heads/x", e), ref("refs/heads/y", b), ref("refs/heads/z", b)), force, change, e, b)
		pushesJust(t, "not whole", r, d, anOffer(t, ref("refs/heads/x", half), ref("refs/heads/y", a), ref("refs/heads/z", api.ID{1})), force, change, a)
		p := pushesJust(t, "all is there", r, d, anOffer(t, ref("refs/heads/x", c)), force, change, c)
		if n := len(packed(t, p, nil)); n != 0 || len(p) == 0 {
			t.Errorf("%d objects in %d bytes", n, len(p))
		}
	}
	pushesJust(t, "side", r, d, anOffer(t, ref("refs/heads/main", c)), false, api.Change{Name: "refs/heads/side", New: e}, c)
}

// TestPushesDeltas: 14.5, deltas stand on what is offered and whole, and on nothing else that is not in the pack.
func TestPushesDeltas(t *testing.T) {
	d, r := create(t)
	big := bigText(3, 20000)
	a := commit(t, r, "f", big)
	b := commit(t, r, "f", big+"x")
	if p := pushesJust(t, "ahead", r, d, anOffer(t, ref("refs/heads/main", a)), false, api.Change{Name: "refs/heads/main", Old: a, New: b}, a); len(p) > 2000 {
		t.Errorf("%d bytes", len(p))
	}
	half := lay(t, d, commitObject(t, api.ID{8}, a))
	r = open(t, d)
	p := pushesJust(t, "not whole", r, d, anOffer(t, ref("refs/heads/side", half)), false, api.Change{Name: "refs/heads/main", New: b})
	if _, err := pack.Read(p, nil); err != nil {
		t.Errorf("%v", err)
	}
}

// TestPushesMany: 14.5 and 5.6, more objects than a pack can have.
func TestPushesMany(t *testing.T) {
	d, _ := create(t)
	trees := manyObjects(t, d, 2000)
	first := lay(t, d, commitObject(t, trees[0]))
	var l []api.Object
	last := lay(t, d, commitObject(t, trees[1], first))
	for range api.MaxObjects - 2*2001 - 1 {
		o := commitObject(t, trees[0], last)
		l = append(l, o)
		last = idOf(t, o)
	}
	addPack(t, d, aPack(t, l...))
	layRef(t, d, "refs/heads/main", last)
	r := open(t, d)
	b, err := r.Pushes(anOffer(t), "main", false)
	noBytes(t, "one too many", b, err, api.ErrPack)
	b, err = r.Pushes(anOffer(t, ref("refs/heads/x", first)), "main", false)
	bytesOf(t, "some are there", b, err)
}
