package repo_test

import (
	"strings"
	"testing"

	"gitlike/api"
	"gitlike/object"
	"gitlike/repo"
)

const ten = "1\n2\n3\n4\n5\n6\n7\n8\n9\n10\n"

// forked is a repository in which main is in use, and side stands beside it: each has a commit of its files on one of base's.
func forked(t *testing.T, base, ours, theirs []string) (d *api.Disk, r *repo.Repo, b, o, s api.ID) {
	t.Helper()
	d, r = create(t)
	b = commitBy(t, r, at(10), base...)
	branch(t, r, "side", "HEAD")
	o = commitBy(t, r, at(20), ours...)
	toSwitch(t, r, "side")
	s = commitBy(t, r, at(30), theirs...)
	toSwitch(t, r, "main")
	return d, r, b, o, s
}

// mergeRefused wants a merge to change nothing.
func mergeRefused(t *testing.T, what string, r *repo.Repo, d *api.Disk, name string, want api.Errno) {
	t.Helper()
	unchanged(t, what, r, d, func() {
		id, err := r.Merge(name, bob, "m")
		is(t, what, err, want)
		if id != nought {
			t.Errorf("%s: %x", what, id)
		}
	})
}

// TestMerge: 13.6, two sides with one base: what is stored, what HEAD stands for, what the logs have.
func TestMerge(t *testing.T) {
	d, r, b, o, s := forked(t, []string{"f", ten, "g", "g", "h/i", "i"}, []string{"f", "0\n" + ten, "h/i", "i", "new", "n"}, []string{"f", ten + "11\n", "g", "g", "h/j", "i"})
	all := objectsTold(t, r)
	id, err := r.Merge("side", bob, "both\n")
	done(t, "Merge", err)
	shows(t, r, "HEAD", "f", "0\n"+ten+"11\n", "h/j", "i", "new", "n")
	root := tree(t,
		api.TreeEntry{Mode: api.FileMode, Name: "f", ID: idOf(t, blob("0\n"+ten+"11\n"))},
		api.TreeEntry{Mode: api.DirMode, Name: "h", ID: idOf(t, tree(t, api.TreeEntry{Mode: api.FileMode, Name: "j", ID: idOf(t, blob("i"))}))},
		api.TreeEntry{Mode: api.FileMode, Name: "new", ID: idOf(t, blob("n"))})
	says(t, r, id, api.CommitInfo{Tree: idOf(t, root), Parents: []api.ID{o, s}, Author: bob, Committer: bob, Message: "both\n"})
	hasObjects(t, "just what is new is stored", r, append(all, idOf(t, blob("0\n"+ten+"11\n")), idOf(t, root), id)...)
	stands(t, r, "HEAD", id)
	stands(t, r, "refs/heads/main", id)
	stands(t, r, "refs/heads/side", s)
	for name, n := range map[string]int{"HEAD": 4, "refs/heads/main": 3} {
		reflog(t, r, name, n, api.LogEntry{Old: o, New: id, Who: bob, Text: "merge"})
	}
	reflog(t, r, "refs/heads/side", 2, api.LogEntry{Old: b, New: s, Who: at(30), Text: "commit: a message"})
	logs(t, r, "HEAD", id, s, o, b)
	tellsTheSame(t, "Merge", r, d)
	mergeRefused(t, "Merge again", r, d, "side", api.ErrNothing)
	// The other side goes forward to it.
	toSwitch(t, r, "side")
	if got := merged(t, r, "main"); got != id {
		t.Errorf("the other side: %x", got)
	}
}

// TestMergeNothing: 13.6, what is merged already.
func TestMergeNothing(t *testing.T) {
	d, r := create(t)
	a := commit(t, r, "f", "1")
	branch(t, r, "old", "HEAD")
	tag(t, r, "v", "HEAD")
	b := commit(t, r, "f", "2")
	for _, name := range []string{"HEAD", "main", "old", "v", hex(a), hex(b), "refs/heads/old"} {
		mergeRefused(t, name, r, d, name, api.ErrNothing)
	}
}

// TestMergeForward: 13.6, the other side reaches this one: nothing is stored.
func TestMergeForward(t *testing.T) {
	for name, at := range map[string]func(side, v api.ID) string{
		"a branch": func(side, v api.ID) string { return "side" }, "an id": func(side, v api.ID) string { return hex(side) },
		"a tag": func(side, v api.ID) string { return "v" }, "a tag's id": func(side, v api.ID) string { return hex(v) },
	} {
		d, r := create(t)
		a := commit(t, r, "f", "1")
		branch(t, r, "side", "HEAD")
		toSwitch(t, r, "side")
		b := commit(t, r, "f", "2")
		c := commit(t, r, "f", "3")
		v := tag(t, r, "v", "HEAD")
		toSwitch(t, r, "main")
		all := objectsTold(t, r)
		id, err := r.Merge(at(c, v), bob, "m")
		if err != nil || id != c {
			t.Errorf("%s: %x, %v", name, id, err)
		}
		logs(t, r, "main", c, b, a)
		hasObjects(t, name, r, all...)
		for _, ref := range []string{"HEAD", "refs/heads/main"} {
			l, err := r.Reflog(ref)
			if err != nil || l[len(l)-1] != (api.LogEntry{Old: a, New: c, Who: bob, Text: "merge: forward"}) {
				t.Errorf("%s: %v, %v", name, l, err)
			}
		}
		tellsTheSame(t, name, r, d)
	}
}

// TestMergeBehindTag: 13.6, HEAD stands for a tag, from which it is changed.
func TestMergeBehindTag(t *testing.T) {
	d, r, b, o, s := forked(t, []string{"f", "1"}, []string{"f", "1", "o", ""}, []string{"f", "1", "t", ""})
	v := lay(t, d, tagObject(t, "v", o, api.Commit))
	w := lay(t, d, tagObject(t, "w", b, api.Commit))
	layRef(t, d, "refs/heads/main", v)
	layRef(t, d, "refs/heads/old", w)
	r = open(t, d)
	mergeRefused(t, "what is merged", r, d, "old", api.ErrNothing)
	id := merged(t, r, "side")
	reflog(t, r, "HEAD", 4, api.LogEntry{Old: v, New: id, Who: bob, Text: "merge"})
	info, err := object.ReadCommit(get(t, r, id).Data)
	if err != nil || len(info.Parents) != 2 || info.Parents[0] != o || info.Parents[1] != s {
		t.Errorf("%v, %v", info, err)
	}
	toSwitch(t, r, "old")
	if got := merged(t, r, "main"); got != id {
		t.Errorf("forward: %x", got)
	}
	stands(t, r, "refs/heads/old", id)
	reflog(t, r, "refs/heads/old", 2, api.LogEntry{Old: w, New: id, Who: bob, Text: "merge: forward"})
}

// TestMergeConflicts: 13.6, texts and paths that conflict.
func TestMergeConflicts(t *testing.T) {
	for _, c := range []struct {
		what               string
		base, ours, theirs []string
	}{
		{"a line", []string{"f", ten}, []string{"f", "x\n" + ten}, []string{"f", "y\n" + ten}},
		{"a line beside what can be merged", []string{"f", "1", "g", ten}, []string{"f", "2", "g", ten + "x\n"}, []string{"f", "3", "g", "x\n" + ten}},
		{"a file that one drops", []string{"f", ten, "g", ""}, []string{"g", ""}, []string{"f", ten + "x\n", "g", ""}},
		{"a file that the other one drops", []string{"f", ten, "g", ""}, []string{"f", ten + "x\n", "g", ""}, []string{"g", ""}},
		{"two new files", nil, []string{"f", "1"}, []string{"f", "2"}},
		{"two new names", []string{"f", ten}, []string{"g", ten}, []string{"h", ten}},
		{"a file and a directory", []string{"f", "1"}, []string{"f", "1", "d", "2"}, []string{"f", "1", "d/e", "2"}},
		{"two files at one path", []string{"f", ten, "g", "x\ny\nz\n"}, []string{"h", ten, "g", "x\ny\nz\n"}, []string{"f", ten, "h", "x\ny\nz\n"}},
	} {
		d, r, _, _, _ := forked(t, c.base, c.ours, c.theirs)
		mergeRefused(t, c.what, r, d, "side", api.ErrConflict)
		toSwitch(t, r, "side")
		mergeRefused(t, c.what+", the other way", r, d, "main", api.ErrConflict)
	}
}

// TestMergeModes: 13.6 and 11.2, modes and links.
func TestMergeModes(t *testing.T) {
	d, r := create(t)
	file := func(mode api.Mode, text string) []api.File {
		return []api.File{{Path: "f", Mode: mode, Data: []byte(text)}}
	}
	put := func(l []api.File) {
		t.Helper()
		_, err := r.Commit(l, ann, "")
		done(t, "Commit", err)
	}
	put(file(api.FileMode, ten))
	branch(t, r, "exec", "HEAD")
	branch(t, r, "link", "HEAD")
	put(file(api.FileMode, ten+"x\n"))
	toSwitch(t, r, "exec")
	put(file(api.ExecMode, ten))
	toSwitch(t, r, "link")
	put(file(api.LinkMode, ten))
	put(file(api.LinkMode, "y\n"+ten))
	mergeRefused(t, "two modes", r, d, "exec", api.ErrConflict)
	mergeRefused(t, "a link", r, d, "main", api.ErrConflict)
	toSwitch(t, r, "main")
	merged(t, r, "exec")
	if l, err := r.Files("HEAD"); err != nil || listed(l) != listed(file(api.ExecMode, ten+"x\n")) {
		t.Errorf("%s, %v", listed(l), err)
	}
}

// TestMergeSame: 13.6, both sides have the same files, made by themselves: there is a commit all the same.
func TestMergeSame(t *testing.T) {
	d, r, b, o, s := forked(t, []string{"f", "1"}, []string{"f", "2"}, []string{"f", "2"})
	id := merged(t, r, "side")
	shows(t, r, "HEAD", "f", "2")
	logs(t, r, "HEAD", id, s, o, b)
	tellsTheSame(t, "the same files", r, d)
}

// TestMergeNoBase: 13.6, two histories that have nothing in common.
func TestMergeNoBase(t *testing.T) {
	d, r := create(t)
	a := commit(t, r, "f", "1", "same", "x")
	root := tree(t, api.TreeEntry{Mode: api.FileMode, Name: "g", ID: idOf(t, blob("2"))}, api.TreeEntry{Mode: api.FileMode, Name: "same", ID: idOf(t, blob("x"))})
	other := lay(t, d, blob("2"), root, commitObject(t, idOf(t, root)))
	clash := tree(t, api.TreeEntry{Mode: api.FileMode, Name: "f", ID: idOf(t, blob("2"))})
	clashing := lay(t, d, clash, commitObject(t, idOf(t, clash)))
	r = open(t, d)
	mergeRefused(t, "one path, two texts", r, d, hex(clashing), api.ErrConflict)
	id := merged(t, r, hex(other))
	shows(t, r, "HEAD", "f", "1", "g", "2", "same", "x")
	info, err := object.ReadCommit(get(t, r, id).Data)
	if err != nil || len(info.Parents) != 2 || info.Parents[0] != a || info.Parents[1] != other {
		t.Errorf("%v, %v", info, err)
	}
}

// crossed is two commits, each on both of two others that stand on one: these two are bases, with times and files of their own.
func crossed(t *testing.T, timeB, timeC int64, b, c string, h, o string) (d *api.Disk, r *repo.Repo, bases []api.ID) {
	t.Helper()
	d, _ = create(t)
	put := func(text string, time int64, parents ...api.ID) api.ID {
		root := tree(t, api.TreeEntry{Mode: api.FileMode, Name: "f", ID: lay(t, d, blob(text))})
		info := api.CommitInfo{Tree: lay(t, d, root), Parents: parents, Author: at(99), Committer: at(time)}
		info.Author.Time = 1 << 30 / (1 + time) // it does not matter
		return lay(t, d, commitWith(t, info))
	}
	a := put("a\n"+ten, 1)
	bases = []api.ID{put(b, timeB, a), put(c, timeC, a)}
	ours, theirs := put(h, 100, bases...), put(o, 100, bases[1], bases[0])
	layRef(t, d, "refs/heads/main", ours)
	layRef(t, d, "refs/heads/side", theirs)
	return d, open(t, d), bases
}

// TestMergeSeveralBases: 13.6, of several bases it is the latest one, by its committer; of those the one with the greatest id.
func TestMergeSeveralBases(t *testing.T) {
	b, c := "b\n"+ten, "c\n"+ten
	both := func(x string) string { return x + "o\n" } // ours is as one base, and adds a line; theirs has what it has in its place
	for _, first := range []bool{true, false} {
		times := []int64{20, 10}
		if !first {
			times = []int64{10, 20}
		}
		// Ours is b with a line more: against b, theirs is the only one that changes the front.
		d, r, _ := crossed(t, times[0], times[1], b, c, both(b), "x\n"+ten)
		if first {
			merged(t, r, "side")
			shows(t, r, "HEAD", "f", both("x\n"+ten))
		} else {
			mergeRefused(t, "against the other base", r, d, "side", api.ErrConflict)
		}
	}
	// The times are the same: the greatest id counts.
	greatestFirst, greatestLast := 0, 0
	for i := range 8 {
		text := strings.Repeat("b", i+1) + "\n" + ten
		d, r, bases := crossed(t, 20, 20, text, c, both(text), "x\n"+ten)
		if strings.Compare(string(bases[0][:]), string(bases[1][:])) > 0 {
			greatestFirst++
			merged(t, r, "side")
			shows(t, r, "HEAD", "f", both("x\n"+ten))
		} else {
			greatestLast++
			mergeRefused(t, "against the other base", r, d, "side", api.ErrConflict)
		}
	}
	if greatestFirst == 0 || greatestLast == 0 {
		t.Errorf("the ids are always in one order: %d, %d", greatestFirst, greatestLast)
	}
}

// TestMergeRefused: 13.6, its errors and their order.
func TestMergeRefused(t *testing.T) {
	d, r := create(t)
	_, err := r.Merge("none", api.Person{Name: "<"}, "m")
	is(t, "a person ahead of all else", err, api.ErrAuthor)
	_, err = r.Merge("none", ann, "\x00")
	is(t, "a message ahead of all else", err, api.ErrAuthor)
	_, err = r.Merge("HEAD", ann, strings.Repeat("x", api.MaxText+1))
	is(t, "a message that is too long", err, api.ErrAuthor)
	mergeRefused(t, "none", r, d, "none", api.ErrNoRef)
	mergeRefused(t, "HEAD, which is not there yet", r, d, "HEAD", api.ErrNoRef)
	root := lay(t, d, tree(t))
	file := lay(t, d, blob("x"))
	c := lay(t, d, commitObject(t, root))
	layRef(t, d, "refs/heads/side", c)
	layRef(t, d, "refs/heads/broken", api.ID{7})
	r = open(t, d)
	mergeRefused(t, "the other one ahead of HEAD", r, d, "broken", api.ErrMissing)
	mergeRefused(t, "HEAD is not there", r, d, "side", api.ErrNoRef)
	toSwitch(t, r, "broken")
	mergeRefused(t, "HEAD is broken", r, d, "side", api.ErrMissing)
	mergeRefused(t, "the other one is no commit", r, d, hex(file), api.ErrCommit)
	// A parent that is there, and is no commit.
	on := lay(t, d, commitObject(t, root, c, root))
	over := lay(t, d, commitObject(t, root, on))
	onBlob := lay(t, d, commitObject(t, root, c, lay(t, d, blob(string(commitObject(t, root).Data)))))
	r = open(t, d)
	toSwitch(t, r, "side")
	for _, id := range []api.ID{on, over, onBlob} {
		mergeRefused(t, "a parent is a tree", r, d, hex(id), api.ErrCommit)
		branch(t, r, "x", hex(id))
		toSwitch(t, r, "x")
		mergeRefused(t, "a parent is a tree, ours", r, d, hex(c), api.ErrCommit)
		toSwitch(t, r, "side")
		done(t, "Drop", r.Drop("x"))
	}
	if _, err := r.Log(hex(over)); api.Tell(err) != api.ErrCommit {
		t.Errorf("Log: %v", err)
	}
}

// TestMergeWrongFiles: 13.6, Flat's errors: of base, of ours, of theirs.
func TestMergeWrongFiles(t *testing.T) {
	right := func(text string) api.Object {
		return tree(t, api.TreeEntry{Mode: api.FileMode, Name: text, ID: idOf(t, blob("x"))})
	}
	empty := tree(t)
	wrong := []api.Object{
		tree(t, api.TreeEntry{Mode: api.DirMode, Name: "d", ID: idOf(t, empty)}),        // ErrTree
		tree(t, api.TreeEntry{Mode: api.DirMode, Name: "d", ID: idOf(t, blob("x"))}),    // ErrMissing
		tree(t, api.TreeEntry{Mode: api.DirMode, Name: "dx", ID: idOf(t, deep(t)[55])}), // ErrPath
	}
	errs := []api.Errno{api.ErrTree, api.ErrMissing, api.ErrPath}
	for i := range 27 {
		d, _ := create(t)
		lay(t, d, append(deep(t), blob("x"), empty)...)
		pick := []int{i % 3, i / 3 % 3, i / 9}
		var roots []api.Object
		want := api.OK
		for k, p := range pick {
			roots = append(roots, []api.Object{right("a"), right("b"), right("c")}[k])
			if p > 0 {
				roots[k] = wrong[(p+k)%3]
				if want == api.OK {
					want = errs[(p+k)%3]
				}
			}
		}
		base := lay(t, d, roots[0], commitObject(t, idOf(t, roots[0])))
		ours := lay(t, d, roots[1], commitWith(t, api.CommitInfo{Tree: idOf(t, roots[1]), Parents: []api.ID{base}, Author: ann, Committer: ann, Message: "ours"}))
		theirs := lay(t, d, roots[2], commitWith(t, api.CommitInfo{Tree: idOf(t, roots[2]), Parents: []api.ID{base}, Author: ann, Committer: ann, Message: "theirs"}))
		layRef(t, d, "refs/heads/main", ours)
		r := open(t, d)
		_, err := r.Merge(hex(theirs), ann, "")
		if want == api.OK {
			want = api.ErrConflict // a is b, and c
		}
		is(t, "wrong files", err, want)
	}
}

// deep is the trees of so many directories, one in another, that the last one's path is none: the outermost one last.
func deep(t *testing.T) []api.Object {
	t.Helper()
	l := []api.Object{tree(t, api.TreeEntry{Mode: api.FileMode, Name: "f", ID: idOf(t, blob("x"))})}
	for i := range 55 {
		l = append(l, tree(t, api.TreeEntry{Mode: api.DirMode, Name: "d", ID: idOf(t, l[i])}))
	}
	return l
}

// TestMergeNoBlobs: 13.6, files that are no blobs: their texts are not merged, and they come along as they are.
func TestMergeNoBlobs(t *testing.T) {
	d, _ := create(t)
	x := lay(t, d, blob("x"))
	odd := []api.ID{lay(t, d, tree(t)), lay(t, d, tree(t, api.TreeEntry{Mode: api.FileMode, Name: "x", ID: x})), lay(t, d, commitObject(t, idOf(t, tree(t))))}
	root := func(id api.ID, more ...string) api.ID {
		l := []api.TreeEntry{{Mode: api.FileMode, Name: "odd", ID: id}}
		for _, name := range more {
			l = append(l, api.TreeEntry{Mode: api.FileMode, Name: name, ID: x})
		}
		return lay(t, d, tree(t, l...))
	}
	base := lay(t, d, commitObject(t, root(odd[0])))
	ours := lay(t, d, commitObject(t, root(odd[1], "ours"), base))
	theirs := lay(t, d, commitObject(t, root(odd[0], "theirs"), base))
	conflict := lay(t, d, commitObject(t, root(odd[2]), base))
	layRef(t, d, "refs/heads/main", ours)
	r := open(t, d)
	mergeRefused(t, "three of them", r, d, hex(conflict), api.ErrConflict)
	id := merged(t, r, hex(theirs))
	info, err := object.ReadCommit(get(t, r, id).Data)
	if err != nil || info.Tree != idOf(t, tree(t, api.TreeEntry{Mode: api.FileMode, Name: "odd", ID: odd[1]}, api.TreeEntry{Mode: api.FileMode, Name: "ours", ID: x}, api.TreeEntry{Mode: api.FileMode, Name: "theirs", ID: x})) {
		t.Errorf("%v, %v", info, err)
	}
	is(t, "Check", r.Check(), api.OK)
}

// TestMergeTooLong: 13.6 and 8.4, both sides can be written, and what they come to cannot.
func TestMergeTooLong(t *testing.T) {
	all := wide()
	d, r := create(t)
	commit(t, r, "f", "")
	branch(t, r, "side", "HEAD")
	put := func(l []api.File) {
		t.Helper()
		_, err := r.Commit(append(l, texts("f", "")...), ann, "")
		done(t, "Commit", err)
	}
	put(all[:750:750])
	toSwitch(t, r, "side")
	for i := range all[750:] {
		all[750+i].Data = []byte("other") // so that they are not those of the other side, renamed
	}
	put(all[750:])
	mergeRefused(t, "too long a tree", r, d, "main", api.ErrLong)
}
