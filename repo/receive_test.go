package repo_test

import (
	"fmt"
	"slices"
	"testing"

	"gitlike/api"
	"gitlike/pack"
	"gitlike/repo"
	"gitlike/wire"
)

// receivesJust wants Receive to answer these statuses, to the byte.
func receivesJust(t *testing.T, what string, r *repo.Repo, d *api.Disk, push []byte, want ...api.Status) {
	t.Helper()
	expected, err := wire.WriteStatus(want)
	done(t, "WriteStatus", err)
	b, err := r.Receive(push)
	if string(bytesOf(t, what, b, err)) != string(expected) {
		t.Errorf("%s: %q for %q", what, b, expected)
	}
	tellsTheSame(t, what, r, d)
}

// receivesNothing wants a change to be refused, with that status, and nothing to change.
func receivesNothing(t *testing.T, what string, r *repo.Repo, d *api.Disk, x api.Change, want api.Errno) {
	t.Helper()
	unchanged(t, what, r, d, func() {
		receivesJust(t, what, r, d, aPush(t, nil, x), api.Status{Name: x.Name, Err: want})
	})
}

// TestReceiveNoPush: 14.6, bytes that are no push.
func TestReceiveNoPush(t *testing.T) {
	d, r := create(t)
	a := commit(t, r, "f", "1")
	push := aPush(t, nil, api.Change{Name: "refs/heads/x", New: a})
	twice := append(slices.Clone(push[:len(push)-4]), push...)
	for what, b := range map[string][]byte{"nothing": nil, "no flush": push[:len(push)-4], "cut": push[:len(push)-1], "noise": []byte("noise"), "0001": []byte("0001")} {
		unchanged(t, what, r, d, func() {
			b, err := r.Receive(b)
			noBytes(t, what, b, err, api.ErrWire)
		})
	}
	for what, b := range map[string][]byte{"an offer": offerOf(t, r), "a want": aWant(t, []api.ID{a}), "a name twice": twice} {
		unchanged(t, what, r, d, func() {
			b, err := r.Receive(b)
			noBytes(t, what, b, err, api.ErrTalk)
		})
	}
}

// TestReceive: 14.6, changes that are taken: made, moved in whatever direction, dropped; branches and tags; what the logs have.
func TestReceive(t *testing.T) {
	d, r := create(t)
	a := commit(t, r, "f", "1")
	b := commit(t, r, "f", "2")
	ok := func(x api.Change, n int) {
		t.Helper()
		receivesJust(t, x.Name, r, d, aPush(t, nil, x), api.Status{Name: x.Name})
		stands(t, r, x.Name, x.New)
		if x.New != nought {
			reflog(t, r, x.Name, n, api.LogEntry{Old: x.Old, New: x.New, Text: "push"})
		}
	}
	for _, name := range []string{"refs/heads/x", "refs/heads/deep/er", "refs/tags/v", "refs/tags/w/1"} {
		ok(api.Change{Name: name, New: a}, 1)
		ok(api.Change{Name: name, Old: a, New: b}, 2)
		ok(api.Change{Name: name, Old: b, New: a}, 3)
		ok(api.Change{Name: name, Old: a, New: a}, 4)
		ok(api.Change{Name: name, Old: a, New: idOf(t, blob("1"))}, 5)
		ok(api.Change{Name: name, Old: idOf(t, blob("1"))}, 0)
		ok(api.Change{Name: name}, 0)
		ok(api.Change{Name: name, New: b}, 1)
	}
	// What HEAD leads to can be moved, and HEAD's log has nothing of it.
	ok(api.Change{Name: "refs/heads/main", Old: b, New: a}, 3)
	stands(t, r, "HEAD", a)
	reflog(t, r, "HEAD", 2, api.LogEntry{Old: a, New: b, Who: ann, Text: "commit: a message"})
	unchanged(t, "no changes", r, d, func() { receivesJust(t, "no changes", r, d, aPush(t, nil)) })
}

// TestReceiveFirst: 14.6, a push makes the branch that HEAD leads to.
func TestReceiveFirst(t *testing.T) {
	_, client := create(t)
	a := commit(t, client, "f", "1")
	d, r := create(t)
	b := pushTo(t, client, r, "main", false)
	receivesJust(t, "the first one", r, d, b, api.Status{Name: "refs/heads/main"})
	stands(t, r, "HEAD", a)
	shows(t, r, "HEAD", "f", "1")
	reflog(t, r, "refs/heads/main", 1, api.LogEntry{New: a, Text: "push"})
	is(t, "Check", r.Check(), api.OK)
}

// TestReceiveName: 14.6, names that are neither those of branches nor of tags, ahead of all else.
func TestReceiveName(t *testing.T) {
	d, r := create(t)
	a := commit(t, r, "f", "1")
	layRef(t, d, "refs/x/y", a)
	layRef(t, d, "refs/remotes/o/main", a)
	layLink(t, d, "HEAD", "refs/x/y")
	r = open(t, d)
	for _, name := range []string{"HEAD", "refs/x/y", "refs/new", "refs/remotes/o/main", "refs/heads", "refs/tags", "refs/headsup/x", "refs/tagsx", "refs/x/refs/heads/main"} {
		for _, x := range []api.Change{{New: a}, {Old: a}, {Old: a, New: a}, {Old: api.ID{1}, New: api.ID{2}}, {}} {
			x.Name = name
			receivesNothing(t, fmt.Sprint(x), r, d, x, api.ErrName)
		}
	}
}

// TestReceiveHead: 14.6, what HEAD leads to is not dropped, there or not, whatever Old is.
func TestReceiveHead(t *testing.T) {
	d, r := create(t)
	for _, old := range []api.ID{nought, {1}} {
		receivesNothing(t, "a branch to come", r, d, api.Change{Name: "refs/heads/main", Old: old}, api.ErrBranch)
	}
	a := commit(t, r, "f", "1")
	branch(t, r, "side", "HEAD")
	for _, old := range []api.ID{a, nought, {1}} {
		receivesNothing(t, "in use", r, d, api.Change{Name: "refs/heads/main", Old: old}, api.ErrBranch)
	}
	toSwitch(t, r, "side")
	receivesNothing(t, "in use", r, d, api.Change{Name: "refs/heads/side", Old: a}, api.ErrBranch)
	receivesJust(t, "in use no more", r, d, aPush(t, nil, api.Change{Name: "refs/heads/main", Old: a}), api.Status{Name: "refs/heads/main"})
	stands(t, r, "refs/heads/main", nought)
	layLink(t, d, "HEAD", "refs/tags/v")
	layRef(t, d, "refs/tags/v", a)
	r = open(t, d)
	receivesNothing(t, "a tag in use", r, d, api.Change{Name: "refs/tags/v", Old: a}, api.ErrBranch)
}

// TestReceiveSent: 14.6, ids that are not whole, with and without a pack, ahead of Update's errors; what was sent stays.
func TestReceiveSent(t *testing.T) {
	d, r := create(t)
	a := commit(t, r, "f", "1")
	half := lay(t, d, commitObject(t, api.ID{8}, a))
	wrong := lay(t, d, api.Object{Kind: api.Tag, Data: []byte("no tag")})
	over := lay(t, d, tagObject(t, "t", wrong, api.Tag))
	r = open(t, d)
	for _, name := range []string{"refs/heads/main", "refs/heads/x", "refs/tags/x", "refs/heads/main/x"} {
		for _, old := range []api.ID{a, nought, {1}} {
			for _, id := range []api.ID{{7}, half, wrong, over} {
				receivesNothing(t, "not whole", r, d, api.Change{Name: name, Old: old, New: id}, api.ErrSent)
			}
		}
	}
	root := tree(t, api.TreeEntry{Mode: api.FileMode, Name: "g", ID: idOf(t, blob("sent"))})
	top := commitObject(t, idOf(t, root), a)
	x := api.Change{Name: "refs/heads/main", Old: a, New: idOf(t, top)}
	was := refsTold(t, r)
	for _, p := range [][]byte{aPack(t, top), aPack(t, blob("sent"), blob("other"))} {
		receivesJust(t, "a part was sent", r, d, aPush(t, p, x), api.Status{Name: x.Name, Err: api.ErrSent})
		if now := refsTold(t, r); now != was {
			t.Errorf("it told\n%s, and now\n%s", was, now)
		}
	}
	if ids := objectsTold(t, r); !slices.Contains(ids, idOf(t, top)) || !slices.Contains(ids, idOf(t, blob("other"))) {
		t.Error("what was sent is not there")
	}
	receivesJust(t, "the rest was sent", r, d, aPush(t, aPack(t, root), x), api.Status{Name: x.Name})
	shows(t, r, "HEAD", "g", "sent")
}

// TestReceiveUpdate: 14.6, the errors of an Update of one change.
func TestReceiveUpdate(t *testing.T) {
	d, r := create(t)
	a := commit(t, r, "f", "1")
	b := commit(t, r, "f", "2")
	branch(t, r, "x", hex(a))
	layLink(t, d, "refs/heads/loop", "refs/heads/pool")
	layLink(t, d, "refs/heads/pool", "refs/heads/loop")
	layLink(t, d, "refs/heads/leads", "refs/heads/x")
	r = open(t, d)
	for _, c := range []struct {
		x    api.Change
		want api.Errno
	}{
		{api.Change{Name: "refs/heads/x", Old: b, New: b}, api.ErrStale},
		{api.Change{Name: "refs/heads/x", New: b}, api.ErrStale},
		{api.Change{Name: "refs/heads/x"}, api.ErrStale},
		{api.Change{Name: "refs/heads/x", Old: b}, api.ErrStale},
		{api.Change{Name: "refs/heads/new", Old: a, New: b}, api.ErrStale},
		{api.Change{Name: "refs/heads/new", Old: a}, api.ErrStale},
		{api.Change{Name: "refs/heads/leads", Old: b, New: b}, api.ErrStale},
		{api.Change{Name: "refs/heads/x/y", New: b}, api.ErrClash},
		{api.Change{Name: "refs/heads/loop", New: b}, api.ErrLoop},
		{api.Change{Name: "refs/heads/loop"}, api.ErrLoop},
	} {
		receivesNothing(t, fmt.Sprint(c.x), r, d, c.x, c.want)
	}
	receivesJust(t, "what leads on", r, d, aPush(t, nil, api.Change{Name: "refs/heads/leads", Old: a, New: b}), api.Status{Name: "refs/heads/leads"})
	stands(t, r, "refs/heads/x", b)
}

// TestReceiveNoPack: 14.6, a pack that is none, or that cannot be worked out, is the status of all; nothing is changed.
func TestReceiveNoPack(t *testing.T) {
	d, r := create(t)
	a := commit(t, r, "f", "1")
	thin, err := pack.Thin([]api.Object{blob(bigText(1, 3000) + "x")}, []api.Object{blob(bigText(1, 3000))})
	bytesOf(t, "Thin", thin, err)
	good := aPack(t, blob("new"))
	changes := []api.Change{
		{Name: "refs/heads/x", New: a}, {Name: "HEAD", New: a}, {Name: "refs/heads/main"}, {Name: "refs/tags/v", New: api.ID{1}},
		{Name: "refs/heads/main/x", Old: a, New: a}, {Name: "refs/heads/y", New: a},
	}
	for what, c := range map[string]struct {
		pack []byte
		want api.Errno
	}{"noise": {[]byte("noise"), api.ErrPack}, "one byte": {[]byte("P"), api.ErrPack}, "cut": {good[:len(good)-1], api.ErrPack}, "without its base": {thin, api.ErrBase}} {
		var want []api.Status
		for _, x := range changes {
			want = append(want, api.Status{Name: x.Name, Err: c.want})
		}
		unchanged(t, what, r, d, func() {
			receivesJust(t, what, r, d, aPush(t, c.pack, changes...), want...)
			receivesJust(t, what+", of nothing", r, d, aPush(t, c.pack))
		})
	}
	// A pack of nothing, and one that nothing asks for, are packs.
	receivesJust(t, "a pack of nothing", r, d, aPush(t, aPack(t), changes[0]), api.Status{Name: "refs/heads/x"})
	receivesJust(t, "no changes", r, d, aPush(t, good))
	if !slices.Contains(objectsTold(t, r), idOf(t, blob("new"))) {
		t.Error("what was sent is not there")
	}
}

// TestReceiveSeveral: 14.6, several changes, of which some are refused: each sees what those ahead of it have done.
func TestReceiveSeveral(t *testing.T) {
	d, r := create(t)
	a := commit(t, r, "f", "1")
	branch(t, r, "b", "HEAD")
	tag(t, r, "v", "HEAD")
	v := refID(t, r, "refs/tags/v")
	root := tree(t, api.TreeEntry{Mode: api.FileMode, Name: "g", ID: idOf(t, blob("sent"))})
	top := commitObject(t, idOf(t, root), a)
	n := idOf(t, top)
	changes := []api.Change{
		{Name: "refs/heads/b/c", New: n},           // b is in its way
		{Name: "refs/heads/b", Old: a},             // not any more
		{Name: "refs/heads/b/d", New: n},           // so this one can be
		{Name: "refs/heads/main"},                  // in use
		{Name: "HEAD", Old: a, New: n},             // no branch
		{Name: "refs/tags/v", Old: a, New: n},      // is not so
		{Name: "refs/tags/w", New: v},              // a tag of a tag's object
		{Name: "refs/heads/e", New: api.ID{1}},     // was not sent
		{Name: "refs/heads/f", Old: n, New: a},     // is not there
		{Name: "refs/heads/g", New: idOf(t, root)}, // a tree is whole
	}
	errs := []api.Errno{api.ErrClash, 0, 0, api.ErrBranch, api.ErrName, api.ErrStale, 0, api.ErrSent, api.ErrStale, 0}
	var want []api.Status
	for i, x := range changes {
		want = append(want, api.Status{Name: x.Name, Err: errs[i]})
	}
	receivesJust(t, "several", r, d, aPush(t, aPack(t, top, root, blob("sent")), changes...), want...)
	stands(t, r, "refs/heads/b", nought)
	stands(t, r, "refs/heads/b/d", n)
	stands(t, r, "refs/heads/main", a)
	stands(t, r, "refs/heads/g", idOf(t, root))
	stands(t, r, "refs/tags/v", v)
	stands(t, r, "refs/tags/w", v)
	is(t, "Check", r.Check(), api.OK)
	for _, name := range []string{"refs/heads/b/c", "refs/heads/e", "refs/heads/f"} {
		stands(t, r, name, nought)
	}
}

// TestReceiveMany: 14.6, as many changes as can be.
func TestReceiveMany(t *testing.T) {
	d, r := create(t)
	a := commit(t, r, "f", "1")
	var changes []api.Change
	var want []api.Status
	for i := range api.MaxRefs {
		x := api.Change{Name: fmt.Sprintf("refs/heads/%d", api.MaxRefs-i), New: a}
		s := api.Status{Name: x.Name}
		if i%3 == 0 {
			x.New, s.Err = api.ID{1}, api.ErrSent
		}
		changes, want = append(changes, x), append(want, s)
	}
	receivesJust(t, "many", r, d, aPush(t, nil, changes...), want...)
	if n := len(r.Refs()); n != 2+api.MaxRefs-(api.MaxRefs+2)/3 {
		t.Errorf("%d refs", n)
	}
}

// TestReceiveSpoilt: 14.6, a bit of an object turned behind Open: what reaches it is not whole, and the others are done all the same.
func TestReceiveSpoilt(t *testing.T) {
	met := 0
	for bit := range uint(20) {
		d, r := create(t)
		a := commit(t, r, "f", "1")
		b := commit(t, r, "f", "2")
		spoilt := hex(idOf(t, blob("2")))
		d.Flip("objects/"+spoilt[:2]+"/"+spoilt[2:], bit*3)
		l := receives(t, r, aPush(t, nil, api.Change{Name: "refs/heads/x", New: a}, api.Change{Name: "refs/heads/y", New: b}, api.Change{Name: "refs/heads/z", New: a}))
		if len(l) != 3 || l[0].Err != 0 || l[1].Err != 0 && l[1].Err != api.ErrSent || l[2].Err != 0 {
			t.Errorf("%v", l)
		}
		if l[1].Err != 0 {
			met++
		}
	}
	if met == 0 {
		t.Error("nothing was spoilt")
	}
}

// TestReceiveOld: P16, of two who push at once the second one is told, and loses nothing of the first one's.
func TestReceiveOld(t *testing.T) {
	serverDisk, server := create(t)
	commit(t, server, "f", "1")
	_, one := clone(t, server)
	_, two := clone(t, server)
	x := commit(t, one, "f", "one")
	commit(t, two, "f", "two")
	first, second := pushTo(t, one, server, "main", false), pushTo(t, two, server, "main", true)
	receivesJust(t, "the first one", server, serverDisk, first, api.Status{Name: "refs/heads/main"})
	receivesJust(t, "the second one", server, serverDisk, second, api.Status{Name: "refs/heads/main", Err: api.ErrStale})
	stands(t, server, "refs/heads/main", x)
	if e := push(t, two, server, "main", false); e != api.ErrForward {
		t.Errorf("%v", e)
	}
}
