package repo_test

import (
	"strconv"
	"strings"
	"testing"

	"gitlike/api"
)

// TestFiles: 13.4, of commits, tags, branches; by their paths, with modes and bytes.
func TestFiles(t *testing.T) {
	d, r := create(t)
	_, err := r.Files("HEAD")
	is(t, "Files of nothing", err, api.ErrNoRef)
	l := []api.File{
		{Path: "b", Mode: api.LinkMode, Data: []byte("a/b")},
		{Path: "a0", Mode: api.FileMode},
		{Path: "a/b", Mode: api.ExecMode, Data: []byte{0, 255, 10}},
		{Path: "a.b", Mode: api.FileMode, Data: []byte(strings.Repeat("long\n", 20000))},
		{Path: "a/a/a", Mode: api.FileMode, Data: []byte("x")},
	}
	a, err := r.Commit(l, ann, "")
	done(t, "Commit", err)
	b := commit(t, r, "only", "1")
	branch(t, r, "old", hex(a))
	v := tag(t, r, "v", "old")
	want := listed([]api.File{l[3], l[4], l[2], l[1], l[0]})
	for range 2 {
		for _, name := range []string{hex(a), "old", "refs/heads/old", "v", "refs/tags/v", hex(v)} {
			if got, err := r.Files(name); err != nil || listed(got) != want {
				t.Errorf("Files(%s): %s, %v", name, listed(got), err)
			}
		}
		for _, name := range []string{hex(b), "HEAD", "main"} {
			shows(t, r, name, "only", "1")
		}
		done(t, "Collect", r.Collect()) // what was packed is the same
		r = open(t, d)
	}
	commit(t, r)
	shows(t, r, "HEAD")
	shows(t, r, hex(b), "only", "1")
}

// TestFilesWrong: 13.4, trees that tell no files, and files that are no blobs. All that they reach is there.
func TestFilesWrong(t *testing.T) {
	d, r := create(t)
	good := commit(t, r, "f", "1", "g/h", "2")
	entry := func(mode api.Mode, name string, id api.ID) api.TreeEntry {
		return api.TreeEntry{Mode: mode, Name: name, ID: id}
	}
	file := lay(t, d, blob("x"))
	empty := lay(t, d, tree(t))
	plain := lay(t, d, tree(t, entry(api.FileMode, "f", file)))
	tagged := lay(t, d, tagObject(t, "t", good, api.Commit))
	deep := plain
	for range 60 {
		deep = lay(t, d, tree(t, entry(api.DirMode, "d", deep)))
	}
	var wide []api.TreeEntry
	for i := range 1001 {
		wide = append(wide, entry(api.FileMode, strconv.Itoa(i), file))
	}
	half := lay(t, d, tree(t, wide...))
	of := func(l ...api.TreeEntry) api.ID { return lay(t, d, tree(t, l...)) }
	for _, c := range []struct {
		what string
		tree api.ID
		want api.Errno
		at   api.ID
	}{
		{"a tree that is a blob", file, api.ErrMissing, file},
		{"a tree that is a commit", good, api.ErrMissing, good},
		{"a file that is a tree", of(entry(api.FileMode, "f", plain)), api.ErrMissing, plain},
		{"a link that is a commit", of(entry(api.FileMode, "a", file), entry(api.LinkMode, "l", good)), api.ErrMissing, good},
		{"a file that is a tag", of(entry(api.ExecMode, "f", tagged)), api.ErrMissing, tagged},
		{"two files that are none", of(entry(api.FileMode, "b", plain), entry(api.FileMode, "a", tagged)), api.ErrMissing, tagged},
		{"a directory that is a blob", of(entry(api.DirMode, "d", file)), api.ErrMissing, file},
		{"a directory that is a commit", of(entry(api.DirMode, "d", good)), api.ErrMissing, good},
		{"a directory without files", of(entry(api.DirMode, "d", empty)), api.ErrTree, nought},
		{"a directory without files behind a file that is none", of(entry(api.FileMode, "a", plain), entry(api.DirMode, "d", empty)), api.ErrTree, nought},
		{"a path that is too long", deep, api.ErrPath, nought},
		{"too many files", of(entry(api.DirMode, "a", half), entry(api.DirMode, "b", half)), api.ErrStage, nought},
	} {
		id := lay(t, d, commitObject(t, c.tree, good))
		r = open(t, d)
		l, err := r.Files(hex(id))
		is(t, c.what, err, c.want)
		if len(l) > 0 {
			t.Errorf("%s: %s", c.what, listed(l))
		}
		if c.at != nought {
			isOf(t, c.what, err, c.want, c.at)
		}
		logs(t, r, hex(id), id, good)
		branch(t, r, "x", hex(id)) // it is whole, for all that
		done(t, "Drop", r.Drop("x"))
	}
	// One commit less in the history has right files.
	shows(t, r, hex(good), "f", "1", "g/h", "2")
}

// TestFilesSpoilt: 13.4 and 6.3, a bit of an object turns behind Open: its file is right, or told to be spoilt; never wrong.
func TestFilesSpoilt(t *testing.T) {
	for _, packed := range []bool{false, true} {
		laid, r := create(t)
		commit(t, r, "f", "1", "g", "2")
		id := commit(t, r, "f", "1", "g", "3")
		if packed {
			done(t, "Collect", r.Collect())
		}
		for _, name := range laid.List() {
			if !strings.HasPrefix(name, "objects/") {
				continue
			}
			for bit := uint(0); bit < 400; bit += 7 {
				d := laid.Copy()
				r := open(t, d)
				d.Flip(name, bit)
				l, err := r.Files(hex(id))
				if err == nil && listed(l) != listed(texts("f", "1", "g", "3")) || err != nil && api.Tell(err) != api.ErrCorrupt {
					t.Fatalf("%s, bit %d: %s, %v", name, bit, listed(l), err)
				}
				was := refsTold(t, r)
				if err := r.Check(); err != nil && api.Tell(err) != api.ErrCorrupt {
					t.Fatalf("%s, bit %d: Check: %v", name, bit, err)
				}
				if err := r.Collect(); err != nil && api.Tell(err) != api.ErrCorrupt {
					t.Fatalf("%s, bit %d: Collect: %v", name, bit, err)
				}
				if refsTold(t, r) != was {
					t.Fatalf("%s, bit %d: refs are changed", name, bit)
				}
			}
		}
	}
}
