package repo_test

import (
	"strconv"
	"strings"
	"testing"

	"gitlike/api"
	"gitlike/object"
	"gitlike/repo"
)

// get finds an object among those that a repository tells.
func get(t *testing.T, r *repo.Repo, id api.ID) api.Object {
	t.Helper()
	l, err := r.Objects()
	done(t, "Objects", err)
	for _, o := range l {
		if idOf(t, o) == id {
			return o
		}
	}
	t.Fatalf("there is no object %x", id)
	return api.Object{}
}

// says wants a commit to say that.
func says(t *testing.T, r *repo.Repo, id api.ID, want api.CommitInfo) {
	t.Helper()
	if o := get(t, r, id); o.Kind != api.Commit || string(o.Data) != string(commitWith(t, want).Data) {
		t.Errorf("%x says %q, not %v", id, o.Data, want)
	}
}

// TestCommit: 13.3, the first one, and others behind it: what is stored, what HEAD stands for, what the logs have.
func TestCommit(t *testing.T) {
	d, r := create(t)
	first := []api.File{
		{Path: "run", Mode: api.ExecMode, Data: []byte("#!")},
		{Path: "dir/sub/f", Mode: api.FileMode, Data: []byte("same")},
		{Path: "dir/link", Mode: api.LinkMode, Data: []byte("same")},
		{Path: "a", Mode: api.FileMode},
	}
	same, run, none := idOf(t, blob("same")), idOf(t, blob("#!")), idOf(t, blob(""))
	sub := tree(t, api.TreeEntry{Mode: api.FileMode, Name: "f", ID: same})
	dir := tree(t, api.TreeEntry{Mode: api.LinkMode, Name: "link", ID: same}, api.TreeEntry{Mode: api.DirMode, Name: "sub", ID: idOf(t, sub)})
	root := tree(t, api.TreeEntry{Mode: api.FileMode, Name: "a", ID: none}, api.TreeEntry{Mode: api.DirMode, Name: "dir", ID: idOf(t, dir)}, api.TreeEntry{Mode: api.ExecMode, Name: "run", ID: run})
	a, err := r.Commit(first, ann, "the first\n\nmore\n")
	done(t, "Commit", err)
	says(t, r, a, api.CommitInfo{Tree: idOf(t, root), Author: ann, Committer: ann, Message: "the first\n\nmore\n"})
	all := []api.ID{same, run, none, idOf(t, sub), idOf(t, dir), idOf(t, root), a}
	hasObjects(t, "the first one", r, all...)
	stands(t, r, "HEAD", a)
	stands(t, r, "refs/heads/main", a)
	for _, name := range []string{"HEAD", "refs/heads/main"} {
		reflog(t, r, name, 1, api.LogEntry{New: a, Who: ann, Text: "commit: the first"})
	}
	b, err := r.Commit(first[:1], bob, "the second")
	done(t, "Commit", err)
	alone := tree(t, api.TreeEntry{Mode: api.ExecMode, Name: "run", ID: run})
	says(t, r, b, api.CommitInfo{Tree: idOf(t, alone), Parents: []api.ID{a}, Author: bob, Committer: bob, Message: "the second"})
	hasObjects(t, "the second one", r, append(all, idOf(t, alone), b)...)
	stands(t, r, "HEAD", b)
	for _, name := range []string{"HEAD", "refs/heads/main"} {
		reflog(t, r, name, 2, api.LogEntry{Old: a, New: b, Who: bob, Text: "commit: the second"})
	}
	tellsTheSame(t, "two commits", r, d)
	is(t, "Check", r.Check(), api.OK)
}

// TestCommitNothing: 13.3, the same files again; those of another commit; no files, as the first one and behind others.
func TestCommitNothing(t *testing.T) {
	d, r := create(t)
	none := commit(t, r)
	says(t, r, none, api.CommitInfo{Tree: idOf(t, tree(t)), Author: ann, Committer: ann, Message: "a message\n"})
	again := func(what string, l []api.File) {
		t.Helper()
		unchanged(t, what, r, d, func() {
			id, err := r.Commit(l, bob, "another message")
			is(t, what, err, api.ErrNothing)
			if id != nought {
				t.Errorf("%s: %x", what, id)
			}
		})
	}
	again("no files again", nil)
	again("no files, not nil", []api.File{})
	a := commit(t, r, "x", "1", "y/z", "2")
	again("the same files", texts("x", "1", "y/z", "2"))
	again("the same files in another order", texts("y/z", "2", "x", "1"))
	b := commit(t, r, "x", "1", "y/z", "3")
	c := commit(t, r, "x", "1", "y/z", "2") // as an earlier commit
	e := commit(t, r)
	logs(t, r, "HEAD", e, c, b, a, none)
	// A mode is enough of a difference.
	for _, mode := range []api.Mode{api.FileMode, api.ExecMode, api.LinkMode} {
		l := []api.File{{Path: "x", Mode: mode, Data: []byte("1")}}
		_, err := r.Commit(l, ann, "")
		done(t, "another mode", err)
		again("the same mode", l)
	}
}

// TestCommitRefused: 13.3, files that cannot be staged, persons and messages that cannot be written: in which order, and nothing is stored.
func TestCommitRefused(t *testing.T) {
	d, r := create(t)
	good := texts("f", "1")
	many := make([]api.File, 0, api.MaxEntries+1)
	for i := range api.MaxEntries + 1 {
		many = append(many, api.File{Path: strconv.Itoa(i), Mode: api.FileMode})
	}
	long := string(make([]byte, api.MaxBlob+1))
	mode := func(m api.Mode) []api.File { return []api.File{{Path: "f", Mode: m}} }
	ill := api.Person{Name: "<"}
	for _, text := range []string{"1", "2"} { // as the first one, and behind another
		for _, c := range []struct {
			what    string
			files   []api.File
			who     api.Person
			message string
			want    api.Errno
		}{
			{"no path", texts("g", "", "", ""), ann, "", api.ErrPath},
			{"a path with a name that is none", texts("a/../b", ""), ann, "", api.ErrPath},
			{"a path that ends with /", texts("a/", ""), ann, "", api.ErrPath},
			{"a path that is too long", texts(strings.Repeat("x", 50)+"/"+strings.Repeat("x", 50), ""), ann, "", api.ErrPath},
			{"a file twice", texts("a", "1", "b", "", "a", "1"), ann, "", api.ErrStage},
			{"a file and a directory", texts("a", "1", "a/b", "2"), ann, "", api.ErrPath},
			{"a mode of a directory", mode(api.DirMode), ann, "", api.ErrStage},
			{"no mode", mode(0), ann, "", api.ErrStage},
			{"too long a file", texts("f", long), ann, "", api.ErrStage},
			{"too long a file at no path", texts("f", long, "..", long), ann, "", api.ErrPath},
			{"too many files", many, ann, "", api.ErrStage},
			{"no path ahead of all else", texts("", long), ill, "\x00", api.ErrPath},
			{"a file twice ahead of a person", texts("a", "", "a", ""), ill, "", api.ErrStage},
			{"a person's name", good, ill, "", api.ErrAuthor},
			{"a person's address", good, api.Person{Mail: "a b "}, "", api.ErrAuthor},
			{"a person's time", good, api.Person{Time: -1}, "", api.ErrAuthor},
			{"a person's zone", good, api.Person{Zone: 841}, "", api.ErrAuthor},
			{"a message with a byte 0", good, ann, "a\x00b", api.ErrAuthor},
			{"too long a message", good, ann, strings.Repeat("x", api.MaxText+1), api.ErrAuthor},
			{"too long a tree", wide(), ann, "", api.ErrLong},
			{"too long a tree, by a wrong person", wide(), ill, "", api.ErrAuthor},
		} {
			unchanged(t, c.what, r, d, func() {
				id, err := r.Commit(c.files, c.who, c.message)
				is(t, c.what, err, c.want)
				if id != nought {
					t.Errorf("%s: %x", c.what, id)
				}
			})
		}
		commit(t, r, "x", text)
	}
	id, err := r.Commit(many[1:], ann, strings.Repeat("x", api.MaxText))
	if err != nil || id == nought {
		t.Errorf("as many files, and as long a message, as can be: %x, %v", id, err)
	}
	if l, err := r.Files("HEAD"); err != nil || len(l) != api.MaxEntries {
		t.Errorf("as many files as can be: %d, %v", len(l), err)
	}
}

// wide is files of which one tree would be too long.
func wide() []api.File {
	var l []api.File
	for i := range 1500 {
		l = append(l, api.File{Path: strings.Repeat("x", 46) + strconv.Itoa(1000+i), Mode: api.FileMode})
	}
	return l
}

// TestCommitLogs: 13.3, what of the message stands in the log.
func TestCommitLogs(t *testing.T) {
	_, r := create(t)
	ten := "0123456789"
	sixty := strings.Repeat(ten, 6)
	for i, c := range []struct{ message, want string }{
		{"", ""}, {"one", "one"}, {"one\n", "one"}, {"one\ntwo\nthree", "one"}, {"\n", ""}, {"\none", ""}, {"one\r\ntwo", "one\r"},
		{sixty, sixty}, {sixty + "\n", sixty}, {sixty + "x", sixty}, {sixty + "\nx", sixty}, {sixty[1:] + "\n" + ten, sixty[1:]},
		{strings.Repeat(ten, 200), sixty}, {sixty[1:] + "ä", sixty[1:] + "\xc3"}, {"\t ", "\t "},
	} {
		id, err := r.Commit(texts("f", strconv.Itoa(i)), ann, c.message)
		done(t, "Commit", err)
		l, err := r.Reflog("HEAD")
		if err != nil || len(l) != i+1 || l[i].New != id || l[i].Text != "commit: "+c.want {
			t.Errorf("%q: %v, %v", c.message, l[len(l)-1], err)
		}
		info, err := object.ReadCommit(get(t, r, id).Data)
		if err != nil || info.Message != c.message {
			t.Errorf("%q: %q, %v", c.message, info.Message, err)
		}
	}
}

// TestCommitBehindTag: 13.3, HEAD stands for a tag: the parent is its commit, and HEAD is changed from the tag.
func TestCommitBehindTag(t *testing.T) {
	d, r := create(t)
	a := commit(t, r, "f", "1")
	v := lay(t, d, tagObject(t, "v", a, api.Commit))
	w := lay(t, d, tagObject(t, "w", v, api.Tag))
	layRef(t, d, "refs/heads/main", w)
	r = open(t, d)
	_, err := r.Commit(texts("f", "1"), ann, "")
	is(t, "the same files", err, api.ErrNothing)
	b := commit(t, r, "f", "2")
	logs(t, r, "HEAD", b, a)
	reflog(t, r, "HEAD", 2, api.LogEntry{Old: w, New: b, Who: ann, Text: "commit: a message"}) // what was laid is in the branch's log alone
	reflog(t, r, "refs/heads/main", 3, api.LogEntry{Old: w, New: b, Who: ann, Text: "commit: a message"})
}

// TestCommitWhereHeadIsWrong: 13.3, the errors of the parent: behind ErrAuthor, ahead of what the trees would tell.
func TestCommitWhereHeadIsWrong(t *testing.T) {
	blobID := idOf(t, blob("x"))
	for _, c := range []struct {
		what string
		lay  func(d *api.Disk)
		want api.Errno
	}{
		{"it stands for what is missing", func(d *api.Disk) { layRef(t, d, "HEAD", api.ID{1}) }, api.ErrMissing},
		{"it stands for a blob", func(d *api.Disk) { lay(t, d, blob("x")); layRef(t, d, "HEAD", blobID) }, api.ErrCommit},
		{"it stands for a commit without a tree", func(d *api.Disk) { layRef(t, d, "HEAD", lay(t, d, commitObject(t, api.ID{2}))) }, api.ErrMissing},
		{"it leads about", func(d *api.Disk) { layLink(t, d, "refs/heads/main", "HEAD") }, api.ErrLoop},
	} {
		d, r := create(t)
		c.lay(d)
		r = open(t, d)
		for what, call := range map[string]func() (api.ID, error){
			"Commit":                    func() (api.ID, error) { return r.Commit(texts("f", "1"), ann, "") },
			"Commit of too long a tree": func() (api.ID, error) { return r.Commit(wide(), ann, "") },
		} {
			unchanged(t, c.what, r, d, func() {
				id, err := call()
				is(t, what+" where "+c.what, err, c.want)
				if id != nought {
					t.Errorf("%x", id)
				}
			})
		}
		_, err := r.Commit(texts("f", "1"), ann, "\x00")
		is(t, "a message ahead of all that", err, api.ErrAuthor)
	}
}

// TestCommitStays: 13.1 and 13.3, the ref cannot be made, and what was stored stays.
func TestCommitStays(t *testing.T) {
	d, r := create(t)
	layRef(t, d, "refs/heads/main/x", api.ID{1})
	r = open(t, d)
	was := refsTold(t, r)
	id, err := r.Commit(texts("f", "1"), ann, "")
	is(t, "a branch above another one", err, api.ErrClash)
	if id != nought || refsTold(t, r) != was {
		t.Errorf("%x, %s", id, refsTold(t, r))
	}
	root := tree(t, api.TreeEntry{Mode: api.FileMode, Name: "f", ID: idOf(t, blob("1"))})
	made := commitWith(t, api.CommitInfo{Tree: idOf(t, root), Author: ann, Committer: ann})
	hasObjects(t, "what was stored", r, idOf(t, blob("1")), idOf(t, root), idOf(t, made))
	tellsTheSame(t, "a clash", r, d)
}
