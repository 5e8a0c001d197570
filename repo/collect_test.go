package repo_test

import (
	"slices"
	"strconv"
	"strings"
	"testing"

	"gitlike/api"
	"gitlike/graph"
	"gitlike/refs"
	"gitlike/repo"
)

// collects wants Collect to leave just these objects, in one pack, and all else as it was; and again.
func collects(t *testing.T, what string, r *repo.Repo, d *api.Disk, want ...api.ID) {
	t.Helper()
	was := refsTold(t, r)
	for range 2 {
		done(t, what+": Collect", r.Collect())
		hasObjects(t, what, r, want...)
		if now := refsTold(t, r); now != was {
			t.Errorf("%s: it told\n%s, and now\n%s", what, was, now)
		}
		tellsTheSame(t, what, r, d)
		for _, name := range d.List() {
			if strings.HasPrefix(name, "objects/") && !strings.HasPrefix(name, "objects/pack/") {
				t.Errorf("%s: there is still %s", what, name)
			}
		}
	}
}

// TestCollectNothing: 13.8, there is nothing to drop; there is nothing at all.
func TestCollectNothing(t *testing.T) {
	d, r := create(t)
	collects(t, "nothing", r, d)
	commit(t, r, "f", "1", "g/h", "2")
	commit(t, r, "f", "1")
	tag(t, r, "v", "HEAD")
	collects(t, "all", r, d, objectsTold(t, r)...)
	shows(t, r, "HEAD", "f", "1")
	lay(t, d, blob("left over"), commitObject(t, api.ID{7}), tree(t))
	r = open(t, d)
	all := objectsTold(t, r)
	done(t, "Collect", r.Collect())
	if now := objectsTold(t, r); len(now) != len(all)-3 {
		t.Errorf("%d objects behind %d", len(now), len(all))
	}
}

// TestCollectUnborn: 13.8, no ref stands for anything, and HEAD's log has what was there.
func TestCollectUnborn(t *testing.T) {
	d, r := create(t)
	commit(t, r, "f", "1")
	all := objectsTold(t, r)
	layRef(t, d, "refs/heads/main", nought)
	lay(t, d, blob("left over"))
	r = open(t, d)
	stands(t, r, "HEAD", nought)
	collects(t, "HEAD's log", r, d, all...)
	expire(t, d, "HEAD")
	collects(t, "no log", open(t, d), d)
}

// expire empties a log, on a disk that no repository uses now.
func expire(t *testing.T, d *api.Disk, name string) {
	t.Helper()
	r, err := refs.Open(d)
	done(t, "refs.Open", err)
	done(t, "Expire", r.Expire(name, 0))
}

// reached is all that ids reach, by the words of 9.4.
func reached(t *testing.T, r *repo.Repo, from ...api.ID) []api.ID {
	t.Helper()
	l, err := r.Objects()
	done(t, "Objects", err)
	ids, err := graph.Closure(l, from)
	done(t, "Closure", err)
	return ids
}

// TestCollectDropped: 13.8, behind dropped branches: as long as HEAD's log has their commits, they are there.
func TestCollectDropped(t *testing.T) {
	d, r := create(t)
	a := commit(t, r, "f", "1")
	branch(t, r, "x", "HEAD")
	branch(t, r, "y", "HEAD")
	toSwitch(t, r, "x")
	commit(t, r, "f", "2")
	b := commit(t, r, "f", "2", "g", "3")
	toSwitch(t, r, "main")
	v := tag(t, r, "v", "x")
	done(t, "Drop", r.Drop("x"))
	c := commit(t, r, "f", "3")
	all := objectsTold(t, r)
	collects(t, "HEAD's log has all", r, d, all...)
	shows(t, r, hex(b), "f", "2", "g", "3")
	expire(t, d, "HEAD")
	r = open(t, d)
	collects(t, "the tag has all", r, d, all...)
	layRef(t, d, "refs/tags/v", nought)
	r = open(t, d)
	collects(t, "neither refs nor logs have it", r, d, reached(t, r, c)...)
	for _, id := range []api.ID{b, v} {
		_, err := r.Files(hex(id))
		isOf(t, "what was dropped", err, api.ErrMissing, id)
	}
	shows(t, r, "y", "f", "1")
	logs(t, r, "HEAD", c, a)
	is(t, "Check", r.Check(), api.OK)
}

// TestCollectLogs: 13.8, ids in logs of all refs, of Old and of New, that are whole and that are not.
func TestCollectLogs(t *testing.T) {
	d, r := create(t)
	a := commit(t, r, "f", "1")
	file := func(text string) api.ID { return lay(t, d, blob(text)) }
	treeOf := func(id api.ID) api.ID {
		return lay(t, d, tree(t, api.TreeEntry{Mode: api.FileMode, Name: "f", ID: id}))
	}
	whole := lay(t, d, commitObject(t, treeOf(file("old")), a))
	tagged := lay(t, d, tagObject(t, "t", lay(t, d, commitObject(t, treeOf(file("tagged")))), api.Commit))
	alone := file("a blob in a log")
	half := lay(t, d, commitObject(t, treeOf(file("of what is not whole")), api.ID{7}))
	spoilt := lay(t, d, api.Object{Kind: api.Tree, Data: []byte("no tree")})
	over := lay(t, d, commitObject(t, treeOf(file("over it")), half, whole))
	file("left over")
	// main's log has them, one behind the other, and stands for a again in the end.
	for _, id := range []api.ID{whole, half, over, spoilt, alone, {9}, a} {
		layRef(t, d, "refs/heads/main", id)
	}
	// A ref that leads to nothing has a log, too: there is the tag.
	layLink(t, d, "refs/heads/leads", "refs/heads/other")
	layRef(t, d, "refs/heads/leads", tagged)
	layRef(t, d, "refs/heads/leads", nought)
	r = open(t, d)
	stands(t, r, "refs/heads/leads", nought)
	reflog(t, r, "refs/heads/leads", 2, api.LogEntry{Old: tagged, Who: bob, Text: "laid"})
	collects(t, "ids in logs", r, d, slices.Concat(reached(t, r, whole, tagged, a), []api.ID{alone})...)
	is(t, "Check", r.Check(), api.OK)
	// Of the oldest entry that is left Old counts, too.
	rr, err := refs.Open(d)
	done(t, "refs.Open", err)
	done(t, "Expire", rr.Expire("refs/heads/main", 1))
	done(t, "Expire", rr.Expire("refs/heads/leads", 1))
	r = open(t, d)
	collects(t, "Old of the last one", r, d, reached(t, r, tagged, a)...)
	layRef(t, d, "refs/heads/main", alone)
	layRef(t, d, "refs/heads/main", a)
	expire(t, d, "refs/heads/leads")
	lay(t, d, blob("a blob in a log"))
	r = open(t, d)
	collects(t, "a blob in a log", r, d, append(reached(t, r, a), alone)...)
}

// TestCollectWrong: 13.8, a ref that does not reach all: nothing is dropped. The first one's error, in the order of their names.
func TestCollectWrong(t *testing.T) {
	d, r := create(t)
	commit(t, r, "f", "1")
	layRef(t, d, "refs/x/2", api.ID{7})
	layRef(t, d, "refs/x/3", lay(t, d, api.Object{Kind: api.Tag, Data: []byte("no tag")}))
	lay(t, d, blob("left over"))
	r = open(t, d)
	unchanged(t, "what is missing", r, d, func() { isOf(t, "Collect", r.Collect(), api.ErrMissing, api.ID{7}) })
	layRef(t, d, "refs/x/1", lay(t, d, api.Object{Kind: api.Commit, Data: []byte("no commit")}))
	r = open(t, d)
	unchanged(t, "no commit", r, d, func() { is(t, "Collect", r.Collect(), api.ErrCommit) })
}

// TestCollectMany: 13.8 and 6.5, as many objects as can be in a pack, and one more.
func TestCollectMany(t *testing.T) {
	d, _ := create(t)
	var l []api.Object
	var roots []api.ID
	for i := range 3 {
		var entries []api.TreeEntry
		for k := range 1665 {
			l = append(l, blob(strconv.Itoa(i)+" "+strconv.Itoa(k)))
			entries = append(entries, api.TreeEntry{Mode: api.FileMode, Name: strconv.Itoa(k), ID: idOf(t, l[len(l)-1])})
		}
		l = append(l, tree(t, entries...))
		roots = append(roots, idOf(t, l[len(l)-1]))
	}
	for i, id := range roots {
		l = append(l, tagObject(t, strconv.Itoa(i), id, api.Tree))
	}
	if len(l) != api.MaxObjects+1 {
		t.Fatalf("%d objects", len(l))
	}
	lay(t, d, l...)
	for i := range roots {
		layRef(t, d, "refs/tags/"+strconv.Itoa(i), idOf(t, l[len(l)-3+i]))
	}
	r := open(t, d)
	unchanged(t, "one too many", r, d, func() { is(t, "Collect", r.Collect(), api.ErrPack) })
	layRef(t, d, "refs/tags/0", roots[0])
	expire(t, d, "refs/tags/0")
	r = open(t, d)
	done(t, "Collect", r.Collect())
	if l := objectsTold(t, r); len(l) != api.MaxObjects {
		t.Errorf("%d objects", len(l))
	}
	is(t, "Check", r.Check(), api.OK)
}

// TestCollectSpoilt: 13.8, what only a log reaches is spoilt behind Open: nothing is dropped for that.
func TestCollectSpoilt(t *testing.T) {
	d, r := create(t)
	commit(t, r, "f", "1")
	branch(t, r, "x", "HEAD")
	toSwitch(t, r, "x")
	commit(t, r, "f", "spoilt", "g", "right")
	toSwitch(t, r, "main")
	done(t, "Drop", r.Drop("x"))
	was := d.List()
	name := hex(idOf(t, blob("spoilt")))
	d.Flip("objects/"+name[:2]+"/"+name[2:], 77)
	is(t, "Collect", r.Collect(), api.ErrCorrupt)
	if now := d.List(); !slices.Equal(now, was) {
		t.Errorf("%q, and now %q", was, now)
	}
}
