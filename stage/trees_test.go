package stage_test

import (
	"bytes"
	"fmt"
	"slices"
	"strconv"
	"strings"
	"testing"

	"gitlike/api"
	"gitlike/digest"
	"gitlike/object"
	"gitlike/stage"
)

// rightTrees wants trees to be as 8.4 says: each once, as WriteTree writes it, none ahead of one that it names, the root's last, none of them beside the root's and those below it.
func rightTrees(t *testing.T, trees []api.Object) {
	t.Helper()
	at := map[api.ID]int{}
	for i, o := range trees {
		if err := object.Check(o); o.Kind != api.Tree || err != nil {
			t.Fatalf("tree %d: kind %d, %v", i, o.Kind, err)
		}
		id := idOf(t, o)
		if _, there := at[id]; there {
			t.Fatalf("tree %d is there twice", i)
		}
		at[id] = i
	}
	needed := make([]bool, len(trees))
	needed[len(trees)-1] = true
	for i, o := range slices.Backward(trees) {
		entries, _ := object.ReadTree(o.Data)
		if !needed[i] || len(entries) == 0 && len(trees) > 1 {
			t.Fatalf("tree %d: %v is none of these files'", i, entries)
		}
		for _, e := range entries {
			k, there := at[e.ID]
			if e.Mode == dir && !there || there && k >= i {
				t.Fatalf("tree %d names %d (%v)", i, k, there)
			}
			if e.Mode == dir {
				needed[k] = true
			}
		}
	}
}

// treesAre wants Trees to make so many trees, right ones, of which Flat makes the entries again.
func treesAre(t *testing.T, name string, l []api.Entry, want int) {
	t.Helper()
	trees, root := planted(t, l)
	rightTrees(t, trees)
	if len(trees) != want {
		t.Errorf("%s: %d trees, not %d", name, len(trees), want)
	}
	flat(t, name, root, trees, bare(l))
}

// TestNoEntries: 8.4, the empty tree alone.
func TestNoEntries(t *testing.T) {
	for _, l := range [][]api.Entry{nil, {}} {
		trees, root := planted(t, l)
		if len(trees) != 1 || len(trees[0].Data) != 0 || digest.Hex(root) != "4b825dc642cb6eb9a060e54bf8d69288fbee4904" {
			t.Errorf("%v", trees)
		}
		treesAre(t, "no entries", l, 1)
	}
}

// TestTreesByHand: 8.4, trees whose entries are written out here.
func TestTreesByHand(t *testing.T) {
	l := []api.Entry{
		{Path: "d/e/f", Mode: api.ExecMode, ID: api.ID{1}, Size: 7},
		{Path: "d0", Mode: api.FileMode, ID: api.ID{2}},
		{Path: "d.x", Mode: api.LinkMode, ID: api.ID{3}},
		{Path: "d/a", Mode: api.FileMode, ID: api.ID{4}},
		{Path: "d/e.f", Mode: api.FileMode, ID: api.ID{5}},
	}
	inner, innerID := treeOf(t, te(api.ExecMode, "f", api.ID{1}))
	middle, middleID := treeOf(t, te(file, "a", api.ID{4}), te(file, "e.f", api.ID{5}), te(dir, "e", innerID))
	outer, _ := treeOf(t, te(api.LinkMode, "d.x", api.ID{3}), te(dir, "d", middleID), te(file, "d0", api.ID{2}))
	trees, _ := planted(t, l)
	want := []api.Object{inner, middle, outer}
	if len(trees) != 3 {
		t.Fatalf("%d trees", len(trees))
	}
	for i, o := range trees {
		if o.Kind != api.Tree || !bytes.Equal(o.Data, want[i].Data) {
			t.Errorf("tree %d: %q, not %q", i, o.Data, want[i].Data)
		}
	}
	rightTrees(t, trees)
}

// TestDirectoriesInDirectories: 8.4, how many trees there are, and that Flat makes the entries again.
func TestDirectoriesInDirectories(t *testing.T) {
	treesAre(t, "a file", all("a"), 1)
	treesAre(t, "files", all("a", "b", "a.b"), 1)
	treesAre(t, "a directory", all("a/b"), 2)
	treesAre(t, "two", all("a/b", "c/d"), 3)
	treesAre(t, "one in another", all("a/b/c"), 3)
	treesAre(t, "signs round /", all("a-b", "a-b/c", "a.b/c", "a/b", "a/b.c/d", "a/b0/e", "a0/b", "a b/c")[1:], 8)
	treesAre(t, "the longest path", all(hundred), 2)
	treesAre(t, "the most parts", all(deepest), 50)
	treesAre(t, "most entries", many(api.MaxEntries), 1)
	var l []api.Entry
	for i := range api.MaxEntries {
		l = append(l, of("d"+strconv.Itoa(i)+"/x"+strconv.Itoa(i), 0))
	}
	treesAre(t, "most directories", l, api.MaxEntries+1)
}

// alike is an entry whose id and mode are always the same.
func alike(paths ...string) []api.Entry {
	var l []api.Entry
	for i, p := range paths {
		l = append(l, api.Entry{Path: p, Mode: file, ID: api.ID{7}, Size: i})
	}
	return l
}

// TestDirectoriesThatAreAlike: 8.4, each different tree once.
func TestDirectoriesThatAreAlike(t *testing.T) {
	treesAre(t, "two", alike("a/x", "b/x"), 2)
	treesAre(t, "two of three", alike("a/x", "b/y", "c/x"), 3)
	treesAre(t, "one below the other", alike("a/a/x", "b/x"), 3)
	treesAre(t, "one above the other", alike("a/x", "b/a/x"), 3)
	treesAre(t, "far below", alike("a/x", "b/b/b/b/b/x", "c/b/b/b/x"), 6)
	treesAre(t, "with all below them", alike("a/c/x", "a/d/x", "b/c/x", "b/d/x", "e/a/c/x", "e/a/d/x"), 4)
	l := alike("a/x", "b/x")
	l[1].Mode = api.LinkMode
	treesAre(t, "another mode", l, 3)
	l[1].Mode, l[1].ID = file, api.ID{8}
	treesAre(t, "another id", l, 3)
}

// TestFilesWithIdsOfTrees: 8.4, none ahead of one that it names, if only as a file.
func TestFilesWithIdsOfTrees(t *testing.T) {
	for _, names := range []string{"abc", "acb", "bac", "bca", "cab", "cba"} {
		a, b, c := names[:1], names[1:2], names[2:]
		l := alike(a + "/x")
		_, first := treeOf(t, te(file, "x", api.ID{7}))
		_, second := treeOf(t, te(api.LinkMode, "y", first))
		l = append(l, api.Entry{Path: b + "/y", Mode: api.LinkMode, ID: first}, api.Entry{Path: c + "/z", Mode: file, ID: second})
		treesAre(t, names, l, 4)
	}
}

// TestStagesInTrees: 8.4, ErrMerge, and what comes first.
func TestStagesInTrees(t *testing.T) {
	merge := func(name string, l ...api.Entry) {
		t.Helper()
		trees, err := stage.Trees(l)
		if len(trees) != 0 || api.Tell(err) != api.ErrMerge {
			t.Errorf("%s: %d trees, %v", name, len(trees), err)
		}
	}
	for n := 1; n <= 3; n++ {
		merge("alone", of("a", n))
		merge("first", of("a", n), of("b", 0))
		merge("last", of("a", 0), of("b/c", n))
	}
	merge("all", of("a", 1), of("a", 2), of("a", 3))
	merge("too long a tree", append(long(50), of("z", 1))...)
	refused(t, "no path", []api.Entry{of("a", 1), of("", 0)}, api.ErrPath)
	refused(t, "a directory", []api.Entry{of("a", 1), of("a/b", 0)}, api.ErrPath)
	refused(t, "the stage 0 too", []api.Entry{of("a", 1), of("a", 0)}, api.ErrStage)
	refused(t, "too many", append(many(api.MaxEntries), of("a", 1)), api.ErrStage)
}

// long is 1900 entries with names of so many bytes.
func long(n int) []api.Entry {
	var l []api.Entry
	for i := range 1900 {
		l = append(l, alike(fmt.Sprintf("%0*d", n, i))...)
	}
	return l
}

// TestLongTrees: 8.4, 2000 entries of 22 bytes each make a tree of MaxBlob bytes; at the root and below it.
func TestLongTrees(t *testing.T) {
	for _, front := range []string{"", "d/", "d/e/f/"} {
		var l []api.Entry
		for i := range api.MaxEntries {
			l = append(l, alike(front+fmt.Sprintf("%022d", i))...)
		}
		trees, _ := planted(t, l)
		if len(trees[0].Data) != api.MaxBlob {
			t.Fatalf("%d bytes", len(trees[0].Data))
		}
		treesAre(t, "fits", l, 1+strings.Count(front, "/"))
		for _, i := range []int{0, 999, 1999} {
			l[i].Path += "x"
			tooLongTree(t, "a byte more", l)
			l[i].Path = strings.TrimSuffix(l[i].Path, "x")
		}
	}
	tooLongTree(t, "far more", long(50))
	tooLongTree(t, "beside others", append(long(50), all("a/b", "z/z")...))
}

func tooLongTree(t *testing.T, name string, l []api.Entry) {
	t.Helper()
	if trees, err := stage.Trees(l); len(trees) != 0 || api.Tell(err) != api.ErrLong {
		t.Errorf("%s: %d trees, %v", name, len(trees), err)
	}
}

// TestLongTreesOfDirectories: 8.4, directories have a byte less than files in a tree: 2000 of 23 bytes fit.
func TestLongTreesOfDirectories(t *testing.T) {
	var l []api.Entry
	for i := range api.MaxEntries {
		l = append(l, alike(fmt.Sprintf("%023d/x", i))...)
	}
	treesAre(t, "fits", l, 2)
	l[5].Path = "x" + l[5].Path
	tooLongTree(t, "a byte more", l)
}

// TestManyTrees: P1, as many directories as there can be about.
func TestManyTrees(t *testing.T) {
	var l []api.Entry
	for i := range api.MaxEntries {
		path := fmt.Sprintf("%04d/", i)
		for len(path) < 99 {
			path += string(rune('a'+i%26)) + "/"
		}
		l = append(l, of(path+"z", 0))
	}
	treesAre(t, "many", l, 1+api.MaxEntries*48)
}
