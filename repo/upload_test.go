package repo_test

import (
	"bytes"
	"fmt"
	"slices"
	"strconv"
	"testing"

	"gitlike/api"
	"gitlike/pack"
	"gitlike/repo"
)

// uploads wants Upload to answer a pack of just what is reached from what is wanted, and not from what is had of have (which is whole); its deltas may stand on what is in both, at most.
func uploads(t *testing.T, what string, r *repo.Repo, d *api.Disk, want, had []api.ID, others ...api.ID) []byte {
	t.Helper()
	var b []byte
	unchanged(t, what, r, d, func() {
		var err error
		b, err = r.Upload(aWant(t, want, append(slices.Clone(had), others...)...))
		bytesOf(t, what, b, err)
	})
	sent := without(reached(t, r, want...), reached(t, r, had...))
	if got := packed(t, b, objectsOf(t, r, had...)); !slices.Equal(got, sent) {
		t.Errorf("%s: %x for %x", what, got, sent)
	}
	return b
}

func uploadRefused(t *testing.T, what string, r *repo.Repo, d *api.Disk, want []byte, err api.Errno) {
	t.Helper()
	unchanged(t, what, r, d, func() {
		b, e := r.Upload(want)
		noBytes(t, what, b, e, err)
	})
}

// TestUploadNoWant: 14.3, bytes that are no want.
func TestUploadNoWant(t *testing.T) {
	d, r := sender(t)
	want := aWant(t, []api.ID{refID(t, r, "refs/heads/main")})
	for what, b := range map[string][]byte{"cut": want[:len(want)-1], "without its front": want[1:], "noise": []byte("noise")} {
		uploadRefused(t, what, r, d, b, api.ErrWire)
	}
	twice := bytes.Replace(want, []byte("0000"), append(slices.Clone(want[:50]), "0000"...), 1)
	for what, b := range map[string][]byte{"nothing": nil, "an offer": offerOf(t, r), "an id twice": twice, "not done": want[:len(want)-9]} {
		uploadRefused(t, what, r, d, b, api.ErrTalk)
	}
}

// TestUploadNotOffered: 14.3, what no branch and no tag has is refused, though it is there, and wherever in the want it stands.
func TestUploadNotOffered(t *testing.T) {
	d, r := create(t)
	a := commit(t, r, "f", "1")
	b := commit(t, r, "f", "2")
	v := tag(t, r, "v", hex(a))
	c := lay(t, d, commitObject(t, lay(t, d, tree(t)), b))
	layRef(t, d, "refs/remotes/o/main", c)
	layRef(t, d, "refs/heads/lost", lay(t, d, commitObject(t, api.ID{8})))
	layLink(t, d, "HEAD", "refs/remotes/o/main")
	r = open(t, d)
	for what, id := range map[string]api.ID{
		"unknown": {1}, "nought": nought, "a parent": a, "a tree": idOf(t, tree(t)), "a blob": idOf(t, blob("2")), "HEAD's, and a remote's": c,
	} {
		for _, l := range [][]api.ID{{id}, {b, id}, {id, v}, {refID(t, r, "refs/heads/lost"), id}} {
			uploadRefused(t, what, r, d, aWant(t, l, a), api.ErrWant)
		}
	}
	uploads(t, "what is offered", r, d, []api.ID{v, b}, nil)
}

// TestUploadNotWhole: 14.3, what is offered reaches something that is missing, or not right: the error of 9.4, in the want's order.
func TestUploadNotWhole(t *testing.T) {
	d, r := create(t)
	a := commit(t, r, "f", "1")
	lost := lay(t, d, commitObject(t, api.ID{8}, a))
	further := lay(t, d, tagObject(t, "t", api.ID{9}, api.Commit))
	wrong := lay(t, d, commitObject(t, lay(t, d, api.Object{Kind: api.Tree, Data: []byte("no tree")}), api.ID{9}))
	layRef(t, d, "refs/heads/lost", lost)
	layRef(t, d, "refs/heads/wrong", wrong)
	layRef(t, d, "refs/tags/further", further)
	layRef(t, d, "refs/tags/gone", api.ID{7})
	r = open(t, d)
	for _, c := range []struct {
		l    []api.ID
		want api.Errno
		at   api.ID
	}{
		{[]api.ID{a, lost}, api.ErrMissing, api.ID{8}},
		{[]api.ID{further, lost}, api.ErrMissing, api.ID{9}},
		{[]api.ID{lost, further}, api.ErrMissing, api.ID{8}},
		{[]api.ID{{7}}, api.ErrMissing, api.ID{7}},
		{[]api.ID{wrong, lost}, api.ErrTree, nought},
	} {
		for _, have := range [][]api.ID{nil, {a}, {lost, further, {7}, {8}, {9}}} {
			unchanged(t, "not whole", r, d, func() {
				b, err := r.Upload(aWant(t, c.l, have...))
				noBytes(t, "not whole", b, err, c.want)
				if c.at != nought {
					isOf(t, "not whole", err, c.want, c.at)
				}
			})
		}
	}
	uploads(t, "others are whole", r, d, []api.ID{a}, nil, lost, api.ID{8}, wrong)
}

// TestUpload: 14.3, what the other side has whole is not sent: nothing, all, what is behind, what is beside, a tag, a tree, a file; what it has and is not whole, or not known here, does not count.
func TestUpload(t *testing.T) {
	d, r := create(t)
	a := commit(t, r, "f", "1", "g/h", ten)
	b := commit(t, r, "f", "2", "g/h", ten)
	branch(t, r, "side", "HEAD")
	c := commit(t, r, "f", "2", "g/h", "0\n"+ten)
	toSwitch(t, r, "side")
	e := commit(t, r, "f", "1", "g/h", ten+"11\n", "j", "new")
	v := tag(t, r, "v", hex(b))
	subtree := tree(t, api.TreeEntry{Mode: api.FileMode, Name: "h", ID: idOf(t, blob(ten))})
	half := lay(t, d, commitObject(t, idOf(t, subtree), c, api.ID{9}))
	left := lay(t, d, commitObject(t, idOf(t, subtree)))
	r = open(t, d)
	wanted := [][]api.ID{nil, {c}, {e}, {v}, {c, e, v}, {v, e}}
	had := [][]api.ID{nil, {a}, {b}, {c}, {e}, {v}, {c, e}, {a, b, v}, {idOf(t, subtree)}, {idOf(t, blob(ten)), idOf(t, blob("1"))}, {left}, {left, a, c, e, v}}
	for i, want := range wanted {
		for k, has := range had {
			for m, others := range [][]api.ID{nil, {half}, {{1}, nought}, {{2}, half, {3}}} {
				uploads(t, fmt.Sprint(i, " ", k, " ", m), r, d, want, has, others...)
			}
		}
	}
}

// TestUploadNumbers: 14.3 and the document's example, how many objects are sent.
func TestUploadNumbers(t *testing.T) {
	d, r := create(t)
	a := commit(t, r, "f", "1")
	if b := uploads(t, "one file", r, d, []api.ID{a}, nil); len(packed(t, b, nil)) != 3 {
		t.Errorf("%d objects", len(packed(t, b, nil)))
	}
	if b := uploads(t, "nothing new", r, d, []api.ID{a}, []api.ID{a}); len(packed(t, b, nil)) != 0 {
		t.Errorf("%d objects", len(packed(t, b, nil)))
	}
	if b := uploads(t, "nothing wanted", r, d, nil, nil); len(packed(t, b, nil)) != 0 {
		t.Errorf("%d objects", len(packed(t, b, nil)))
	}
}

// bigText is one of so many bytes that no deflating makes short.
func bigText(seed, n int) string {
	b := make([]byte, n)
	x := uint32(seed)*2654435761 + 1
	for i := range b {
		x = x*1664525 + 1013904223
		b[i] = byte(x >> 24)
	}
	return string(b)
}

// TestUploadDeltas: 14.3, deltas stand on what the other side has, where it has something, and on nothing else that is not in the pack.
func TestUploadDeltas(t *testing.T) {
	d, r := create(t)
	big := bigText(1, 20000)
	a := commit(t, r, "f", big)
	b := commit(t, r, "f", big+"x")
	c := commit(t, r, "f", big+"xy", "g", big+"z")
	if p := uploads(t, "what is ahead", r, d, []api.ID{c}, []api.ID{b}); len(p) > 2000 {
		t.Errorf("%d bytes", len(p))
	}
	if p := uploads(t, "all", r, d, []api.ID{c}, nil); len(p) < 20000 || len(p) > 24000 {
		t.Errorf("%d bytes", len(p))
	}
	// Of what is not whole on the other side's word nothing may be used, though it is here.
	layRef(t, d, "refs/heads/half", lay(t, d, commitObject(t, api.ID{9}, b)))
	r = open(t, d)
	half := refID(t, r, "refs/heads/half")
	p := uploads(t, "not whole", r, d, []api.ID{c}, nil, half)
	if _, err := pack.Read(p, nil); err != nil {
		t.Errorf("%v", err)
	}
	uploads(t, "the first", r, d, []api.ID{c}, []api.ID{a}, half)
}

// manyObjects lays two trees of so many files each, all different, and tells their ids.
func manyObjects(t *testing.T, d *api.Disk, n int) (ids [2]api.ID) {
	t.Helper()
	var l []api.Object
	for i := range ids {
		var entries []api.TreeEntry
		for k := range n {
			l = append(l, blob(strconv.Itoa(i)+" "+strconv.Itoa(k)))
			entries = append(entries, api.TreeEntry{Mode: api.FileMode, Name: strconv.Itoa(k), ID: idOf(t, l[len(l)-1])})
		}
		l = append(l, tree(t, entries...))
		ids[i] = idOf(t, l[len(l)-1])
	}
	s := aPack(t, l[:n+1]...)
	addPack(t, d, s)
	addPack(t, d, aPack(t, l[n+1:]...))
	return ids
}

// TestUploadMany: 14.3 and 5.6, as many objects as a pack can have, and one more.
func TestUploadMany(t *testing.T) {
	d, _ := create(t)
	trees := manyObjects(t, d, 2000)
	below := lay(t, d, commitObject(t, trees[0]), commitObject(t, trees[1], idOf(t, commitObject(t, trees[0]))))
	var l []api.Object
	var entries []api.TreeEntry
	for k := range api.MaxObjects + 1 - 2*2001 - 2 - 2 { // beside the trees, the commits below, and those of the new commit
		l = append(l, blob("more "+strconv.Itoa(k)))
		entries = append(entries, api.TreeEntry{Mode: api.FileMode, Name: strconv.Itoa(k), ID: idOf(t, l[k])})
	}
	addPack(t, d, aPack(t, append(slices.Clone(l), tree(t, entries...))...))
	top := lay(t, d, commitObject(t, idOf(t, tree(t, entries...)), below))
	layRef(t, d, "refs/heads/main", top)
	r := open(t, d)
	b, err := r.Upload(aWant(t, []api.ID{top}))
	noBytes(t, "one too many", b, err, api.ErrPack)
	one := idOf(t, l[0])
	b, err = r.Upload(aWant(t, []api.ID{top}, one))
	if n := len(packed(t, bytesOf(t, "as many as can be", b, err), objectsOf(t, r, one))); n != api.MaxObjects {
		t.Errorf("%d objects", n)
	}
}
