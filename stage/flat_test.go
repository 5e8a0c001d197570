package stage_test

import (
	"fmt"
	"math/rand"
	"slices"
	"strings"
	"testing"

	"gitlike/api"
	"gitlike/stage"
)

// entriesOf is entries of a tree: so many files, whose names begin with that.
func entriesOf(n int, front string) []api.TreeEntry {
	var l []api.TreeEntry
	for i := range n {
		l = append(l, te(file, fmt.Sprintf("%s%05d", front, i), api.ID{1}))
	}
	return l
}

// nested is a tree in directories of these names, the outermost first: all trees, and the root's id.
func nested(t *testing.T, id api.ID, trees []api.Object, names ...string) ([]api.Object, api.ID) {
	t.Helper()
	for _, n := range slices.Backward(names) {
		var o api.Object
		o, id = treeOf(t, te(dir, n, id))
		trees = append(trees, o)
	}
	return trees, id
}

// TestFlat: 8.4, the entries of what Trees has made, whatever the order of trees is and whatever is beside them.
func TestFlat(t *testing.T) {
	l := all("a-b", "a.b/c", "a/b", "a/b.c/d", "a/b0/e", "a0", "b", "c/d/e/f/g", "c/d/e/h", hundred, deepest, "\xff/\x01", "é/\xff")
	trees, root := planted(t, l)
	other, otherID := treeOf(t, te(file, "x", api.ID{9}), te(dir, "y", api.ID{99}))
	trees = append(trees, other, trees[0], api.Object{}, api.Object{Kind: api.Tree, Data: []byte("none")}, api.Object{Kind: api.Blob, Data: trees[0].Data}, api.Object{Kind: api.Tree, Data: make([]byte, api.MaxBlob+1)}, api.Object{Kind: -5})
	r := rand.New(rand.NewSource(84))
	for range 20 {
		flat(t, "all", root, trees, bare(l))
		r.Shuffle(len(trees), func(i, j int) { trees[i], trees[j] = trees[j], trees[i] })
	}
	missing(t, "another root", otherID, trees, api.ID{99})
}

// TestFlatByHand: 8.4, entries that are written out here.
func TestFlatByHand(t *testing.T) {
	inner, innerID := treeOf(t, te(api.ExecMode, "f", api.ID{1}))
	outer, outerID := treeOf(t, te(api.LinkMode, "d.x", api.ID{3}), te(dir, "d", innerID), te(file, "d0", api.ID{2}), te(dir, "c", innerID))
	flat(t, "by hand", outerID, []api.Object{inner, outer}, []api.Entry{
		{Path: "c/f", Mode: api.ExecMode, ID: api.ID{1}},
		{Path: "d.x", Mode: api.LinkMode, ID: api.ID{3}},
		{Path: "d/f", Mode: api.ExecMode, ID: api.ID{1}},
		{Path: "d0", Mode: api.FileMode, ID: api.ID{2}},
	})
	flat(t, "a directory by itself", innerID, []api.Object{inner, outer}, []api.Entry{{Path: "f", Mode: api.ExecMode, ID: api.ID{1}}})
}

// TestTreesThatAreMissing: 8.4, which id is told.
func TestTreesThatAreMissing(t *testing.T) {
	l := all("a/b/c", "a/d", "e/f", "g")
	trees, root := planted(t, l)
	missing(t, "no trees", root, nil, root)
	missing(t, "nought", api.ID{}, trees, api.ID{})
	missing(t, "no such root", api.ID{5}, trees, api.ID{5})
	for i, o := range trees {
		missing(t, "one is not there", root, slices.Delete(slices.Clone(trees), i, i+1), idOf(t, o))
	}
	missing(t, "the first one of them", root, trees[3:], mustID(t, "a", trees[3]))
	leaf, leafID := treeOf(t, te(file, "x", api.ID{1}))
	two, twoID := treeOf(t, te(dir, "a", leafID), te(dir, "b", api.ID{2}), te(dir, "c", api.ID{3}))
	missing(t, "the second one", twoID, []api.Object{leaf, two}, api.ID{2})
	// Only directories are trees that must be there.
	o, id := treeOf(t, te(file, "a", api.ID{2}), te(api.LinkMode, "b", api.ID{3}), te(api.ExecMode, "c", api.ID{}))
	if l, err := stage.Flat(id, []api.Object{o}); err != nil || len(l) != 3 {
		t.Errorf("%v, %v", l, err)
	}
	// The empty tree must be among trees too.
	empty, none := treeOf(t)
	missing(t, "the empty tree", none, nil, none)
	flat(t, "the empty tree", none, []api.Object{empty}, nil)
}

// mustID is the id by which a tree names an entry.
func mustID(t *testing.T, name string, o api.Object) api.ID {
	t.Helper()
	at := strings.Index(string(o.Data), " "+name+"\x00")
	if at < 0 {
		t.Fatalf("no %q in %q", name, o.Data)
	}
	return api.ID(o.Data[at+len(name)+2:][:20])
}

// TestObjectsThatAreNoTrees: 8.4, they count as if they were not there.
func TestObjectsThatAreNoTrees(t *testing.T) {
	right, _ := treeOf(t, te(file, "a", api.ID{1}), te(file, "b", api.ID{1}))
	half := len(right.Data) / 2
	me := "<> 0 +0000\n"
	none := strings.Repeat("0", 40)
	for name, o := range map[string]api.Object{
		"noise":         {Kind: api.Tree, Data: []byte("noise")},
		"cut short":     {Kind: api.Tree, Data: right.Data[:half+3]},
		"out of order":  {Kind: api.Tree, Data: append(slices.Clone(right.Data[half:]), right.Data[:half]...)},
		"twice":         {Kind: api.Tree, Data: append(slices.Clone(right.Data[:half]), right.Data[:half]...)},
		"another mode":  {Kind: api.Tree, Data: []byte("100664 a\x00" + string(make([]byte, 20)))},
		"no name":       {Kind: api.Tree, Data: []byte("100644 .git\x00" + string(make([]byte, 20)))},
		"a blob":        {Kind: api.Blob, Data: right.Data},
		"an empty blob": {Kind: api.Blob},
		"a commit":      {Kind: api.Commit, Data: []byte("tree " + none + "\nauthor  " + me + "committer  " + me + "\n")},
		"a tag":         {Kind: api.Tag, Data: []byte("object " + none + "\ntype tree\ntag a\ntagger  " + me + "\n")},
	} {
		id := idOf(t, o)
		missing(t, name, id, []api.Object{o}, id)
		trees, root := nested(t, id, []api.Object{o, right}, "a", "b")
		missing(t, name, root, trees, id)
	}
	for _, k := range []api.Kind{0, 5, 6, 7, -1, 1 << 40} {
		o := right
		o.Kind = k
		id := idOf(t, right)
		missing(t, "a kind", id, []api.Object{o}, id)
		flat(t, "beside another kind", id, []api.Object{o, right, o}, []api.Entry{{Path: "a", Mode: file, ID: api.ID{1}}, {Path: "b", Mode: file, ID: api.ID{1}}})
	}
}

// TestTreesOfTooManyBytes: 8.4, a tree of more than MaxBlob bytes is none by Check, and one of just so many is one.
func TestTreesOfTooManyBytes(t *testing.T) {
	var l []api.TreeEntry
	for i := range api.MaxEntries {
		l = append(l, te(file, fmt.Sprintf("%022d", i), api.ID{1}))
	}
	o, id := treeOf(t, l...)
	if got, err := stage.Flat(id, []api.Object{o}); err != nil || len(got) != api.MaxEntries || len(o.Data) != api.MaxBlob {
		t.Errorf("%d, %v", len(got), err)
	}
	o.Data = append(o.Data, 0)
	missing(t, "a byte more", id, []api.Object{o}, id)
}

// TestEmptyTrees: 8.4, below the root there is none.
func TestEmptyTrees(t *testing.T) {
	empty, none := treeOf(t)
	flat(t, "the root", none, []api.Object{empty}, nil)
	for _, names := range [][]string{{"a"}, {"a", "b"}, {fifty, fifty[1:]}} {
		trees, root := nested(t, none, []api.Object{empty}, names...)
		notFlat(t, "below the root", root, trees, api.ErrTree)
	}
	o, id := treeOf(t, te(file, "a", api.ID{1}), te(dir, "b", none), te(file, "c", api.ID{1}))
	notFlat(t, "between files", id, []api.Object{o, empty}, api.ErrTree)
	missing(t, "not there", id, []api.Object{o}, none)
	o, id = treeOf(t, te(file, "a", none))
	flat(t, "a file's id", id, []api.Object{o, empty}, []api.Entry{{Path: "a", Mode: file, ID: none}})
}

// TestPathsThatGetTooLong: 8.4, and that a directory's own path is looked at before its tree.
func TestPathsThatGetTooLong(t *testing.T) {
	leaf, leafID := treeOf(t, te(file, fifty[1:], api.ID{1}))
	trees, root := nested(t, leafID, []api.Object{leaf}, fifty)
	flat(t, "100 bytes", root, trees, []api.Entry{{Path: hundred, Mode: file, ID: api.ID{1}}})
	leaf, leafID = treeOf(t, te(file, fifty, api.ID{1}))
	trees, root = nested(t, leafID, []api.Object{leaf}, fifty)
	notFlat(t, "101 bytes", root, trees, api.ErrPath)
	leaf, leafID = treeOf(t, te(file, "a", api.ID{1}))
	empty, none := treeOf(t)
	for name, id := range map[string]api.ID{"missing": {5}, "empty": none, "there": leafID} {
		trees, root = nested(t, id, []api.Object{leaf, empty}, fifty, fifty)
		notFlat(t, "a directory of 101 bytes, "+name, root, trees, api.ErrPath)
	}
	trees, root = nested(t, leafID, []api.Object{leaf}, fifty, fifty[1:])
	notFlat(t, "a file in a directory of 100 bytes", root, trees, api.ErrPath)
	trees, root = nested(t, api.ID{5}, nil, fifty, fifty[1:])
	missing(t, "a directory of 100 bytes", root, trees, api.ID{5})
	ones := strings.Split(strings.Repeat("b", 49), "")
	trees, root = nested(t, leafID, []api.Object{leaf}, ones...)
	flat(t, "49 directories", root, trees, []api.Entry{{Path: strings.Repeat("b/", 49) + "a", Mode: file, ID: api.ID{1}}})
	trees, root = nested(t, leafID, []api.Object{leaf}, append(ones, "b")...)
	notFlat(t, "50 directories", root, trees, api.ErrPath)
	trees, root = nested(t, leafID, []api.Object{leaf}, strings.Split(strings.Repeat("b", 2000), "")...)
	notFlat(t, "2000 directories", root, trees, api.ErrPath)
}

// TestTreesThatNameThemselves: none can be made; but one can name the id that it is asked for, or that another one has.
func TestTreesThatNameThemselves(t *testing.T) {
	o, id := treeOf(t, te(file, "a", api.ID{1}), te(dir, "b", api.ID{5}))
	missing(t, "its own, as it is asked", api.ID{5}, []api.Object{o}, api.ID{5})
	missing(t, "its own, as it is not", id, []api.Object{o}, api.ID{5})
}

// TestOneTreeUnderManyNames: 8.4, P1, and one too many.
func TestOneTreeUnderManyNames(t *testing.T) {
	leaf, leafID := treeOf(t, te(file, "x", api.ID{1}))
	many := func(n int) (api.Object, api.ID) {
		var l []api.TreeEntry
		for i := range n {
			l = append(l, te(dir, fmt.Sprintf("%04d", i), leafID))
		}
		return treeOf(t, l...)
	}
	o, id := many(api.MaxEntries)
	if l, err := stage.Flat(id, []api.Object{leaf, o}); err != nil || len(l) != api.MaxEntries || l[1999].Path != "1999/x" {
		t.Errorf("%d, %v", len(l), err)
	}
	trees, id := []api.Object{leaf}, leafID
	for range 10 {
		o, id = treeOf(t, te(dir, "a", id), te(dir, "b", id))
		trees = append(trees, o)
	}
	l, err := stage.Flat(id, trees)
	if err != nil || len(l) != 1024 || !slices.Equal(l, inOrder(l)) || l[1].Path != "a/a/a/a/a/a/a/a/a/b/x" {
		t.Errorf("%d, %v", len(l), err)
	}
	for n := range 39 { // so many files that they cannot be told
		o, id = treeOf(t, te(dir, "a", id), te(dir, "b", id))
		trees = append(trees, o)
		notFlat(t, fmt.Sprint(n+11, " times"), id, trees, api.ErrStage)
	}
	o, id = treeOf(t, te(dir, "a", id), te(dir, "b", id))
	notFlat(t, "50 times", id, append(trees, o), api.ErrPath)
}

// TestTooManyFiles: 8.4, when there is one too many.
func TestTooManyFiles(t *testing.T) {
	full, fullID := treeOf(t, entriesOf(api.MaxEntries, "f")...)
	leaf, leafID := treeOf(t, te(file, "x", api.ID{1}))
	empty, none := treeOf(t)
	long, longID := treeOf(t, te(dir, fifty, leafID))
	trees := []api.Object{full, leaf, empty, long}
	if l, err := stage.Flat(fullID, trees); err != nil || len(l) != api.MaxEntries {
		t.Errorf("%d, %v", len(l), err)
	}
	for name, c := range map[string]struct {
		last api.TreeEntry
		want api.Errno
	}{
		"a file":               {te(file, "b", api.ID{1}), api.ErrStage},
		"a directory":          {te(dir, "b", leafID), api.ErrStage},
		"another full one":     {te(dir, "b", fullID), api.ErrStage},
		"a tree that is none":  {te(dir, "b", api.ID{5}), api.ErrMissing},
		"an empty one":         {te(dir, "b", none), api.ErrTree},
		"a path that is none":  {te(dir, fifty, longID), api.ErrPath},
		"a file ahead of all":  {te(file, "A", api.ID{1}), api.ErrStage},
		"a missing one, ahead": {te(dir, "A", api.ID{5}), api.ErrMissing},
		"an empty one, ahead":  {te(dir, "A", none), api.ErrTree},
	} {
		o, id := treeOf(t, te(dir, "a", fullID), c.last)
		notFlat(t, name, id, append(trees, o), c.want)
		o, id = treeOf(t, te(dir, "a", fullID), c.last, te(file, "z", api.ID{1}))
		notFlat(t, name+", and a file", id, append(trees, o), c.want)
		o, id = treeOf(t, te(dir, "a", fullID), te(file, "a0", api.ID{1}), c.last)
		if c.last.Name != "A" {
			c.want = api.ErrStage
		}
		notFlat(t, name+", behind one too many", id, append(trees, o), c.want)
	}
	rest, restID := treeOf(t, entriesOf(api.MaxEntries-1, "f")...)
	o, id := treeOf(t, te(dir, "a", restID), te(dir, "b", leafID))
	if l, err := stage.Flat(id, append(trees, rest, o)); err != nil || len(l) != api.MaxEntries || l[1999].Path != "b/x" {
		t.Errorf("%d, %v", len(l), err)
	}
	// One too many whose path is none, too: the path comes first.
	wide, wideID := treeOf(t, te(file, fifty, api.ID{1}))
	o, id = treeOf(t, te(dir, "a", fullID), te(dir, fifty, wideID))
	notFlat(t, "one too many without a path", id, append(trees, wide, o), api.ErrPath)
}

// TestFlatsFirstErrors: 8.4, errors in the order in which they are met.
func TestFlatsFirstErrors(t *testing.T) {
	empty, none := treeOf(t)
	leaf, leafID := treeOf(t, te(file, fifty, api.ID{1}))
	trees := []api.Object{empty, leaf}
	at := map[api.Errno]api.TreeEntry{
		api.ErrMissing: te(dir, "", api.ID{5}),
		api.ErrTree:    te(dir, "", none),
		api.ErrPath:    te(dir, "", leafID),
	}
	for first, a := range at {
		for second, b := range at {
			a.Name, b.Name = "b"+fifty[1:], "c"+fifty[1:]
			o, id := treeOf(t, te(file, "a", api.ID{1}), b, a)
			notFlat(t, "in one tree", id, append(trees, o), first)
			// In a directory where it stands, between entries of the tree above it.
			in, inID := treeOf(t, te(dir, a.Name, a.ID))
			out, outID := treeOf(t, te(dir, "d", inID), te(dir, "e"+fifty[1:], b.ID))
			notFlat(t, "in a directory", outID, append(trees, in, out), first)
			out, outID = treeOf(t, te(dir, "f", inID), te(dir, "e"+fifty[1:], b.ID))
			notFlat(t, "behind a directory", outID, append(trees, in, out), second)
		}
	}
	// A directory finds its place with a `/` behind its name.
	o, id := treeOf(t, te(dir, "a", none), te(dir, "a.b", api.ID{5}))
	missing(t, "by their places", id, append(trees, o), api.ID{5})
	o, id = treeOf(t, te(dir, "a", none), te(dir, "a0", api.ID{5}))
	notFlat(t, "by their places", id, append(trees, o), api.ErrTree)
}
