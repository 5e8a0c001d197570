package repo_test

import (
	"slices"
	"testing"

	"gitlike/api"
	"gitlike/graph"
)

// TestLog: 13.7 and 9.2, in order: children ahead of parents, the latest one first, by its committer.
func TestLog(t *testing.T) {
	d, r := create(t)
	_, err := r.Log("HEAD")
	is(t, "Log of nothing", err, api.ErrNoRef)
	root := commitBy(t, r, at(50), "f", ten)
	branch(t, r, "side", "HEAD")
	var ours, theirs []api.ID
	for i, time := range []int64{90, 60, 10} {
		ours = append(ours, commitBy(t, r, at(time), "f", ten, "o", string(rune('0'+i))))
	}
	toSwitch(t, r, "side")
	for i, time := range []int64{5, 80, 20} {
		theirs = append(theirs, commitBy(t, r, at(time), "f", ten, "t", string(rune('0'+i))))
	}
	logs(t, r, "side", theirs[2], theirs[1], theirs[0], root)
	logs(t, r, "main", ours[2], ours[1], ours[0], root)
	id := merged(t, r, "main")
	logs(t, r, "HEAD", id, theirs[2], theirs[1], ours[2], ours[1], ours[0], theirs[0], root)
	tag(t, r, "v", "main")
	logs(t, r, "v", ours[2], ours[1], ours[0], root)
	logs(t, r, hex(theirs[0]), theirs[0], root)
	logs(t, open(t, d), "HEAD", id, theirs[2], theirs[1], ours[2], ours[1], ours[0], theirs[0], root)
}

// TestLogByCommitter: 13.6 and 13.7, the committer's time counts, not the author's; of the same time the greatest id.
func TestLogByCommitter(t *testing.T) {
	d, _ := create(t)
	root := lay(t, d, tree(t))
	var sides []api.ID
	var times []int64
	for i := range 8 {
		time := int64(i / 2)
		info := api.CommitInfo{Tree: root, Author: at(100 - int64(i)), Committer: at(time)}
		sides = append(sides, lay(t, d, commitWith(t, info)))
		times = append(times, time)
	}
	top := lay(t, d, commitObject(t, root, sides...))
	var nodes []api.Node
	for i, id := range sides {
		nodes = append(nodes, api.Node{ID: id, Time: times[i]})
	}
	want, err := graph.Order(nodes, sides, nil)
	done(t, "Order", err)
	logs(t, open(t, d), hex(top), append([]api.ID{top}, want...)...)
	for i := range 4 {
		if !slices.Contains(sides[2*i:2*i+2], want[7-2*i]) {
			t.Error("the times do not count")
		}
	}
}

// TestLogLimit: 13.7 and 9.1, as many commits as can be in a graph, and one more.
func TestLogLimit(t *testing.T) {
	d, _ := create(t)
	root := lay(t, d, tree(t))
	var row []api.Object
	parents := []api.ID{}
	for range api.MaxEntries + 1 {
		o := commitObject(t, root, parents...)
		row = append(row, o)
		parents = []api.ID{idOf(t, o)}
	}
	lay(t, d, row...)
	most := idOf(t, row[api.MaxEntries-1])
	layRef(t, d, "refs/heads/main", most)
	r := open(t, d)
	if l, err := r.Log("HEAD"); err != nil || len(l) != api.MaxEntries || l[0] != most {
		t.Errorf("%d, %v", len(l), err)
	}
	l, err := r.Log(hex(parents[0]))
	is(t, "one more", err, api.ErrGraph)
	if len(l) > 0 {
		t.Errorf("%d", len(l))
	}
	mergeRefused(t, "one more", r, d, hex(parents[0]), api.ErrGraph)
	mergeRefused(t, "as many as can be", r, d, hex(idOf(t, row[7])), api.ErrNothing)
	branch(t, r, "x", hex(parents[0])) // it is whole
	is(t, "Check", r.Check(), api.OK)
	// A parent that is no commit is told first.
	over := lay(t, d, commitObject(t, root, parents[0], root))
	_, err = open(t, d).Log(hex(over))
	is(t, "one more, and a tree", err, api.ErrCommit)
}

// TestRefs: 13.7, all refs that stand for something, by their names; where HEAD leads to.
func TestRefs(t *testing.T) {
	d, r := create(t)
	a := commit(t, r, "f", "1")
	branch(t, r, "z", "HEAD")
	branch(t, r, "a/b", "HEAD")
	v := tag(t, r, "v", "HEAD")
	layRef(t, d, "refs/remotes/o/x", api.ID{9})
	layLink(t, d, "refs/heads/leads", "refs/heads/z")
	layLink(t, d, "refs/heads/to-none", "refs/heads/none")
	r = open(t, d)
	want := []api.Ref{{Name: "HEAD", ID: a}, {Name: "refs/heads/a/b", ID: a}, {Name: "refs/heads/leads", ID: a}, {Name: "refs/heads/main", ID: a}, {Name: "refs/heads/z", ID: a}, {Name: "refs/remotes/o/x", ID: api.ID{9}}, {Name: "refs/tags/v", ID: v}}
	if got := r.Refs(); !slices.Equal(got, want) {
		t.Errorf("%v", got)
	}
	toSwitch(t, r, "a/b")
	if head, err := r.Head(); head != "a/b" || err != nil {
		t.Errorf("%q, %v", head, err)
	}
	if got := r.Refs(); !slices.Equal(got, want) {
		t.Errorf("%v", got)
	}
}

// TestReflog: 13.7 and 7.5, by whole names; its errors.
func TestReflog(t *testing.T) {
	d, r := create(t)
	a := commit(t, r, "f", "1")
	layLink(t, d, "refs/heads/to-none", "refs/heads/none")
	r = open(t, d)
	reflog(t, r, "refs/heads/main", 1, api.LogEntry{New: a, Who: ann, Text: "commit: a message"})
	reflog(t, r, "HEAD", 1, api.LogEntry{New: a, Who: ann, Text: "commit: a message"})
	reflog(t, r, "refs/heads/to-none", 0, api.LogEntry{})
	for name, want := range map[string]api.Errno{"": api.ErrName, "main": api.ErrName, "refs/heads/": api.ErrName, hex(a): api.ErrName, "refs/heads/none": api.ErrNoRef, "refs/main": api.ErrNoRef} {
		l, err := r.Reflog(name)
		is(t, "Reflog of "+name, err, want)
		if len(l) > 0 {
			t.Errorf("%s: %v", name, l)
		}
	}
}

// TestObjects: 13.7, all objects, reached or not, whatever their bytes are, by their ids.
func TestObjects(t *testing.T) {
	d, r := create(t)
	want := []api.Object{blob("1"), blob(""), {Kind: api.Commit, Data: []byte("no commit")}, {Kind: api.Tag}, tree(t), {Kind: api.Tree, Data: []byte("x")}}
	lay(t, d, want...)
	r = open(t, d)
	var ids []api.ID
	for _, o := range want {
		ids = append(ids, idOf(t, o))
	}
	hasObjects(t, "what was laid", r, ids...)
	l, err := r.Objects()
	done(t, "Objects", err)
	for _, o := range l {
		i := slices.Index(ids, idOf(t, o))
		if o.Kind != want[i].Kind || string(o.Data) != string(want[i].Data) {
			t.Errorf("%v", o)
		}
	}
}

// TestCheck: 13.7, refs of what is missing, or not right, in the order of their names.
func TestCheck(t *testing.T) {
	d, r := create(t)
	is(t, "no refs", r.Check(), api.OK)
	a := commit(t, r, "f", "1")
	lay(t, d, commitObject(t, api.ID{8})) // nothing leads there
	is(t, "all is there", open(t, d).Check(), api.OK)
	file := lay(t, d, blob("x"))
	layRef(t, d, "refs/tags/blob", file)
	is(t, "a blob is all there", open(t, d).Check(), api.OK)
	check := func(what string, want api.Errno, at api.ID) {
		t.Helper()
		r := open(t, d)
		unchanged(t, what, r, d, func() {
			err := r.Check()
			is(t, what, err, want)
			if at != nought {
				isOf(t, what, err, want, at)
			}
		})
	}
	layRef(t, d, "refs/x/9", lay(t, d, api.Object{Kind: api.Tag, Data: []byte("no tag")}))
	check("no tag", api.ErrTag, nought)
	layRef(t, d, "refs/x/8", api.ID{8})
	check("what is missing", api.ErrMissing, api.ID{8})
	layRef(t, d, "refs/x/7", lay(t, d, api.Object{Kind: api.Tree, Data: []byte("no tree")}))
	check("no tree", api.ErrTree, nought)
	layRef(t, d, "refs/tags/v", lay(t, d, tagObject(t, "v", lay(t, d, commitObject(t, idOf(t, tree(t)), a)), api.Commit)))
	check("a tag of a commit without a tree", api.ErrMissing, idOf(t, tree(t)))
	layRef(t, d, "refs/heads/main", lay(t, d, api.Object{Kind: api.Commit, Data: []byte("no commit")}))
	check("HEAD first", api.ErrCommit, nought)
}
