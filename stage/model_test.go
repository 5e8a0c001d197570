package stage_test

import (
	"bytes"
	"math/rand"
	"slices"
	"strings"
	"testing"

	"gitlike/api"
	"gitlike/object"
	"gitlike/stage"
)

// plainPath is IsPath, as the document's words say it.
func plainPath(s string) bool {
	for _, p := range strings.Split(s, "/") {
		if len(p) < 1 || len(p) > 50 || strings.Contains(p, "\x00") || p == "." || p == ".." || p == ".git" {
			return false
		}
	}
	return len(s) <= 100
}

// plainError is Write's error: each rule by itself, each entry held against each other one.
func plainError(l []api.Entry) api.Errno {
	for _, e := range l {
		if !plainPath(e.Path) {
			return api.ErrPath
		}
	}
	clash := false
	for i, e := range l {
		if e.Mode != 0o100644 && e.Mode != 0o100755 && e.Mode != 0o120000 || e.Size < 0 || e.Size > 100000 || e.Stage < 0 || e.Stage > 3 {
			return api.ErrStage
		}
		for k, f := range l {
			if i != k && e.Path == f.Path && (e.Stage == f.Stage || e.Stage == 0) {
				return api.ErrStage
			}
			clash = clash || strings.HasPrefix(f.Path, e.Path+"/")
		}
	}
	if len(l) > 2000 {
		return api.ErrStage
	}
	if clash {
		return api.ErrPath
	}
	return api.OK
}

// plainTree is the tree of a directory whose paths begin with that, and all below it, each put into trees.
func plainTree(t *testing.T, l []api.Entry, front string, trees map[api.ID]string) api.ID {
	var made []api.TreeEntry
	seen := map[string]bool{}
	for _, e := range l {
		rest, ok := strings.CutPrefix(e.Path, front)
		name, _, deeper := strings.Cut(rest, "/")
		if !ok || seen[name] {
			continue
		}
		seen[name] = true
		if deeper {
			made = append(made, te(dir, name, plainTree(t, l, front+name+"/", trees)))
		} else {
			made = append(made, te(e.Mode, name, e.ID))
		}
	}
	o, id := treeOf(t, made...)
	trees[id] = string(o.Data)
	return id
}

// anyPath is a path of few signs, so that many are alike; seldom one that is none.
func anyPath(r *rand.Rand) string {
	parts := []string{"a", "b", "a.", "a-", "a0", "ab", "\xff", "é"}
	if r.Intn(40) == 0 {
		parts = append(parts, "", ".git", "..", strings.Repeat("n", 50), strings.Repeat("n", 51))
	}
	var l []string
	for range 1 + r.Intn(4) {
		l = append(l, parts[r.Intn(len(parts))])
	}
	return strings.Join(l, "/")
}

// anyEntries is some entries, most of them right by themselves.
func anyEntries(r *rand.Rand) []api.Entry {
	modes := []api.Mode{api.FileMode, api.ExecMode, api.LinkMode}
	var l []api.Entry
	staged, clean := r.Intn(3) == 0, r.Intn(3) > 0
	for range r.Intn(25) {
		e := api.Entry{Path: anyPath(r), Mode: modes[r.Intn(3)], ID: api.ID{byte(r.Intn(2))}, Size: r.Intn(api.MaxBlob + 1)}
		if staged {
			e.Stage = r.Intn(4)
		}
		switch r.Intn(400) {
		case 0:
			e.Mode = dir
		case 1:
			e.Stage = 4
		case 2:
			e.Size = -1
		}
		// Entries without any order are seldom right: so most of them are left out where they would be wrong.
		if !clean || plainError(append(slices.Clone(l), e)) == api.OK {
			l = append(l, e)
		}
	}
	return l
}

// TestEntriesByLot holds Write, Read and Trees against the document's words.
func TestEntriesByLot(t *testing.T) {
	r := rand.New(rand.NewSource(800))
	count := map[api.Errno]int{}
	for range 4000 {
		l := anyEntries(r)
		want := plainError(l)
		count[want]++
		b, err := stage.Write(l)
		if api.Tell(err) != want || want != api.OK && b != nil {
			t.Fatalf("Write of %s: %v, not %v", brief(l), err, want)
		}
		if want != api.OK {
			refused(t, "by lot", l, want)
			if len(l) > 0 {
				unread(t, "by lot", summed(body(inOrder(l)...)))
			}
			continue
		}
		sorted := inOrder(l)
		if !bytes.Equal(b, summed(body(sorted...))) {
			t.Fatalf("Write of %s: %x", brief(l), b)
		}
		if got, err := stage.Read(b); err != nil || !slices.Equal(got, sorted) {
			t.Fatalf("Read: %s, %v, not %s", brief(got), err, brief(sorted))
		}
		if staged := slices.ContainsFunc(l, func(e api.Entry) bool { return e.Stage != 0 }); staged {
			count[api.ErrMerge]++
			if trees, err := stage.Trees(l); trees != nil || api.Tell(err) != api.ErrMerge {
				t.Fatalf("Trees of %s: %v", brief(l), err)
			}
			continue
		}
		treesByLot(t, l)
	}
	if count[api.OK] < 500 || count[api.ErrPath] < 100 || count[api.ErrStage] < 100 || count[api.ErrMerge] < 100 {
		t.Errorf("%v", count)
	}
}

// treesByLot holds Trees, and Flat of what it makes, against the document's words.
func treesByLot(t *testing.T, l []api.Entry) {
	t.Helper()
	trees, root := planted(t, l)
	rightTrees(t, trees)
	want := map[api.ID]string{}
	if plainTree(t, l, "", want) != root || len(want) != len(trees) {
		t.Fatalf("Trees of %s: %d trees, not %d", brief(l), len(trees), len(want))
	}
	for _, o := range trees {
		if data, there := want[idOf(t, o)]; !there || data != string(o.Data) {
			t.Fatalf("Trees of %s: %q", brief(l), o.Data)
		}
	}
	flat(t, "by lot", root, trees, bare(l))
}

// walker goes through trees as the document's words say it.
type walker struct {
	trees map[api.ID][]api.TreeEntry
	found []api.Entry
	err   api.Errno
	id    api.ID // of the tree that is missing
}

// walked goes through a tree.
func walked(root api.ID, trees []api.Object) walker {
	w := walker{trees: map[api.ID][]api.TreeEntry{}}
	for _, o := range trees {
		if o.Kind == api.Tree && object.Check(o) == nil {
			id, _ := object.ID(o)
			w.trees[id], _ = object.ReadTree(o.Data)
		}
	}
	w.walk(root, "")
	return w
}

func (w *walker) walk(id api.ID, front string) {
	l, there := w.trees[id]
	if !there {
		w.err, w.id = api.ErrMissing, id
		return
	}
	if len(l) == 0 && front != "" {
		w.err = api.ErrTree
	}
	for _, e := range l {
		path := front + e.Name
		switch {
		case w.err != api.OK:
			return
		case !plainPath(path):
			w.err = api.ErrPath
		case e.Mode == dir:
			w.walk(e.ID, path+"/")
		case len(w.found) == 2000:
			w.err = api.ErrStage
		default:
			w.found = append(w.found, api.Entry{Path: path, Mode: e.Mode, ID: e.ID})
		}
	}
}

// anyTrees is trees that name those ahead of them, many of them wrong in some way, and the last one's id.
func anyTrees(t *testing.T, r *rand.Rand) ([]api.Object, api.ID) {
	full, fullID := treeOf(t, entriesOf(600, "f")...)
	leaf, leafID := treeOf(t, te(file, "x", api.ID{1}))
	trees, ids := []api.Object{full, leaf}, []api.ID{fullID, leafID}
	names := []string{"a", "b", "a.", "a0", "z"}
	if r.Intn(4) == 0 {
		names[4] = strings.Repeat("z", 46+r.Intn(5))
	}
	odd := 8 + r.Intn(60) // so seldom something is wrong
	for range 1 + r.Intn(8) {
		var l []api.TreeEntry
		for _, n := range names {
			switch r.Intn(5) {
			case 0, 1:
				l = append(l, te(dir, n, ids[r.Intn(len(ids))]))
			case 2:
				l = append(l, te(file, n, api.ID{2}))
			}
		}
		switch r.Intn(odd) {
		case 0:
			l = append(l, te(dir, "m", api.ID{5}))
		case 1:
			l = append(l, te(dir, strings.Repeat("n", 50), ids[r.Intn(len(ids))]))
		case 2:
			l = nil
		}
		o, id := treeOf(t, l...)
		if r.Intn(odd) > 0 {
			trees = append(trees, o)
		}
		ids = append(ids, id)
	}
	return trees, ids[len(ids)-1]
}

// TestTreesByLot holds Flat against the document's words.
func TestTreesByLot(t *testing.T) {
	r := rand.New(rand.NewSource(840))
	count := map[api.Errno]int{}
	for range 1000 {
		trees, root := anyTrees(t, r)
		w := walked(root, trees)
		count[w.err]++
		switch w.err {
		case api.OK:
			flat(t, "by lot", root, trees, w.found)
			if !slices.Equal(w.found, inOrder(w.found)) {
				t.Fatalf("not in order: %s", brief(w.found))
			}
		case api.ErrMissing:
			missing(t, "by lot", root, trees, w.id)
		default:
			notFlat(t, "by lot", root, trees, w.err)
		}
	}
	for _, e := range []api.Errno{api.OK, api.ErrMissing, api.ErrPath, api.ErrTree, api.ErrStage} {
		if count[e] < 20 {
			t.Errorf("%v", count)
		}
	}
}
