package repo_test

import (
	"strings"
	"testing"

	"gitlike/api"
	"gitlike/repo"
)

// TestResolve: 13.2, texts that are ids, names, branches, tags, several of these, none.
func TestResolve(t *testing.T) {
	d, r := create(t)
	a := commit(t, r, "f", "a")
	b := commit(t, r, "f", "b")
	c := commit(t, r, "f", "c")
	e := commit(t, r, "f", "e")
	odd := strings.Repeat("ab", 20)
	long := strings.Repeat("n", 50) // too long for a branch, not for a tag
	for name, id := range map[string]api.ID{
		"x": a, "both": a, "HEAD": a, "refs/heads/y": a, odd: a, "heads/x": c, "deep/er": b,
	} {
		branch(t, r, name, hex(id))
	}
	for name, id := range map[string]api.ID{"both": b, "v": b, long: b, "loop": c, "dangling": c, "heads": c, "refs": b} {
		tag(t, r, name, hex(id))
	}
	v := tag(t, r, "of-a-tag", "v")
	layRef(t, d, "refs/remotes/o/x", c)
	layRef(t, d, "refs/x", c)
	layLink(t, d, "refs/heads/leads", "refs/heads/x")
	layLink(t, d, "refs/heads/loop", "refs/heads/pool")
	layLink(t, d, "refs/heads/pool", "refs/heads/loop")
	layLink(t, d, "refs/heads/dangling", "refs/heads/none")
	layLink(t, d, "refs/tags/leads-nowhere", "refs/tags/none")
	r = open(t, d)
	for text, want := range map[string]api.ID{
		hex(a): a, hex(e): e, hex(v): b, // ids
		"HEAD": e, "refs/heads/x": a, "refs/heads/main": e, "refs/tags/v": b, "refs/remotes/o/x": c, "refs/x": c, // names
		"refs/heads/leads": a, "leads": a,
		"x": a, "main": e, "both": a, "heads/x": c, "deep/er": b, // branches
		"v": b, "of-a-tag": b, long: b, "heads": c, "refs": b, // tags
		"loop": c, "dangling": c, // tags, since there is no id of the branch
		"refs/heads/HEAD": a, "refs/heads/refs/heads/y": a, "refs/heads/" + odd: a,
	} {
		l, err := r.Log(text)
		if err != nil || len(l) == 0 || l[0] != want {
			t.Errorf("%q: %x, %v for %x", text, l, err, want)
		}
	}
	for text, want := range map[string]api.Errno{
		"": api.ErrNoRef, "none": api.ErrNoRef, "X": api.ErrNoRef, " x": api.ErrNoRef, "x/": api.ErrNoRef, "/x": api.ErrNoRef,
		"deep": api.ErrNoRef, "x..y": api.ErrNoRef, "x\x00": api.ErrNoRef, "heads/y": api.ErrNoRef, "tags/v": api.ErrNoRef,
		"leads-nowhere": api.ErrNoRef, "pool": api.ErrNoRef, "ref/x": api.ErrNoRef, "refs/": api.ErrNoRef,
		strings.Repeat("x", 100000): api.ErrNoRef, strings.Repeat("n", 51): api.ErrNoRef,
		"refs/heads/y": api.ErrNoRef, "refs/heads/none": api.ErrNoRef, "refs/heads/dangling": api.ErrNoRef, "refs/heads/loop": api.ErrLoop,
		odd: api.ErrMissing, strings.Repeat("0", 40): api.ErrMissing, hex(a)[1:]: api.ErrNoRef, hex(a) + "0": api.ErrNoRef,
		strings.ToUpper(hex(a)): api.ErrNoRef,
	} {
		l, err := r.Log(text)
		if api.Tell(err) != want || len(l) > 0 {
			t.Errorf("%.50q: %x, %v for %d", text, l, err, want)
		}
	}
}

// resolving is the calls that resolve a text, and take its commit.
func resolving(r *repo.Repo) map[string]func(text string) error {
	return map[string]func(text string) error{
		"Files":  func(text string) error { l, err := r.Files(text); return zero(l == nil, err) },
		"Log":    func(text string) error { l, err := r.Log(text); return zero(l == nil, err) },
		"Branch": func(text string) error { return r.Branch("new", text) },
		"Tag":    func(text string) error { id, err := r.Tag("new", text, ann, ""); return zero(id == nought, err) },
		"Merge":  func(text string) error { id, err := r.Merge(text, ann, ""); return zero(id == nought, err) },
	}
}

// zero is the error of a call that answered nothing else.
func zero(nothing bool, err error) error {
	if err != nil && !nothing {
		return api.Errno(-2)
	}
	return err
}

// TestCommitOf: 13.2, the commit of an id, through tags, and which error is told where.
func TestCommitOf(t *testing.T) {
	d, r := create(t)
	good := commit(t, r, "f", "1", "g/h", "2")
	empty := tree(t)
	lost := []api.ID{{1}, {2}, {3}}
	file := func(id api.ID) api.TreeEntry { return api.TreeEntry{Mode: api.FileMode, Name: "f", ID: id} }
	dir := func(id api.ID) api.TreeEntry { return api.TreeEntry{Mode: api.DirMode, Name: "e", ID: id} }
	kinds := map[api.Kind]api.ID{}
	for k := api.Commit; k <= api.Tag; k++ {
		kinds[k] = lay(t, d, api.Object{Kind: k, Data: []byte("no " + string(rune('0'+k)))})
	}
	treeID := lay(t, d, empty)
	tagOf := func(id api.ID) api.ID { return lay(t, d, tagObject(t, "t", id, api.Commit)) }
	commitOn := func(tree api.ID, parents ...api.ID) api.ID { return lay(t, d, commitObject(t, tree, parents...)) }
	for _, c := range []struct {
		what string
		id   api.ID
		want api.Errno
		at   api.ID // of an *api.IDError
	}{
		{"what is missing", lost[0], api.ErrMissing, lost[0]},
		{"a tag of what is missing", tagOf(lost[0]), api.ErrMissing, lost[0]},
		{"a tag of a tag of what is missing", tagOf(tagOf(lost[1])), api.ErrMissing, lost[1]},
		{"no tag", kinds[api.Tag], api.ErrTag, nought},
		{"a tag of no tag", tagOf(kinds[api.Tag]), api.ErrTag, nought},
		{"a blob", kinds[api.Blob], api.ErrCommit, nought},
		{"a tag of a blob", tagOf(kinds[api.Blob]), api.ErrCommit, nought},
		{"a blob of a commit's bytes", lay(t, d, blob(string(get(t, r, good).Data))), api.ErrCommit, nought},
		{"a tree", treeID, api.ErrCommit, nought},
		{"a tag of a tree", tagOf(treeID), api.ErrCommit, nought},
		{"no tree", kinds[api.Tree], api.ErrCommit, nought},
		{"no commit", kinds[api.Commit], api.ErrCommit, nought},
		{"a tag of a tag of no commit", tagOf(tagOf(kinds[api.Commit])), api.ErrCommit, nought},
		{"a commit without its tree", commitOn(lost[0]), api.ErrMissing, lost[0]},
		{"a tag of it", tagOf(commitOn(lost[0])), api.ErrMissing, lost[0]},
		{"a commit without a parent", commitOn(treeID, good, lost[1]), api.ErrMissing, lost[1]},
		{"a commit without a tree and a parent", commitOn(lost[2], lost[0]), api.ErrMissing, lost[2]},
		{"a commit without two parents", commitOn(treeID, lost[2], lost[1]), api.ErrMissing, lost[2]},
		{"a commit on one without its tree", commitOn(treeID, commitOn(lost[1], lost[0]), lost[2]), api.ErrMissing, lost[1]},
		{"a commit on no commit", commitOn(treeID, kinds[api.Commit], lost[0]), api.ErrCommit, nought},
		{"a commit on no tag", commitOn(treeID, kinds[api.Tag]), api.ErrTag, nought},
		{"a commit of no tree", commitOn(kinds[api.Tree], kinds[api.Commit]), api.ErrTree, nought},
		{"a file that is missing", commitOn(lay(t, d, tree(t, file(lost[0]))), lost[1]), api.ErrMissing, lost[0]},
		{"a directory that is missing", commitOn(lay(t, d, tree(t, dir(lost[0]), file(lost[1])))), api.ErrMissing, lost[0]},
		{"a directory that is none", commitOn(lay(t, d, tree(t, dir(kinds[api.Tree]), file(lost[1])))), api.ErrTree, nought},
		{"a file below that is missing", commitOn(lay(t, d, tree(t, dir(lay(t, d, tree(t, file(lost[2]))))))), api.ErrMissing, lost[2]},
		{"a file that is no commit", commitOn(lay(t, d, tree(t, file(kinds[api.Commit])))), api.ErrCommit, nought},
	} {
		r = open(t, d)
		for name, call := range resolving(r) {
			unchanged(t, name+" of "+c.what, r, d, func() {
				err := call(hex(c.id))
				is(t, name+" of "+c.what, err, c.want)
				if c.at != nought {
					isOf(t, name+" of "+c.what, err, c.want, c.at)
				}
			})
		}
	}
	// Those that are right, in the end.
	for _, id := range []api.ID{good, tagOf(good), tagOf(tagOf(tagOf(good))), lay(t, d, tagObject(t, "t", good, api.Blob))} {
		r = open(t, d)
		shows(t, r, hex(id), "f", "1", "g/h", "2")
		logs(t, r, hex(id), good)
	}
}

// TestManyTags: P1, a long row of tags of tags.
func TestManyTags(t *testing.T) {
	d, r := create(t)
	good := commit(t, r, "f", "1")
	id := good
	var row []api.Object
	for range 1500 {
		row = append(row, tagObject(t, "t", id, api.Tag))
		id = idOf(t, row[len(row)-1])
	}
	lay(t, d, row...)
	logs(t, open(t, d), hex(id), good)
}
