package diff_test

import (
	"fmt"
	"math"
	"slices"
	"strings"
	"testing"

	"gitlike/api"
	"gitlike/diff"
	"gitlike/object"
)

func list[T any](l ...T) []T { return l }

// blobsOf is a blob of each text.
func blobsOf(texts ...string) []api.Object {
	var l []api.Object
	for _, s := range texts {
		l = append(l, blob(s))
	}
	return l
}

// Texts by what they have in common with the first one: all but their order, 75, 50, 25, nothing.
const (
	full    = "1\n2\n3\n4\n"
	turned  = "4\n3\n2\n1\n"
	most    = "1\n2\n3\nx\n"
	half    = "1\n2\ny\nx\n"
	quarter = "1\nz\ny\nx\n"
	none    = "5\n6\n7\n8\n"
)

var allTexts = list(full, turned, most, half, quarter, none)

// TestTurnsOfOnePath: 10.6, files whose path is in both: another mode, another id, both; another size alone is nothing.
func TestTurnsOfOnePath(t *testing.T) {
	f := file("a", full)
	sized := f
	sized.Size = 77
	for _, c := range []struct {
		now  api.Entry
		want string
	}{{f, ""}, {sized, ""}, {as(api.ExecMode, f), "a>a"}, {as(api.LinkMode, f), "a>a"}, {file("a", most), "a>a"}, {as(api.ExecMode, file("a", none)), "a>a"}} {
		for _, least := range []int{-1, 1, 50, 100, 101} {
			turns(t, list(f), list(c.now), blobsOf(allTexts...), least, c.want)
			turns(t, list(f), list(c.now), nil, least, c.want)
		}
	}
	turns(t, nil, nil, nil, 50, "")
	turns(t, []api.Entry{}, []api.Entry{}, []api.Object{}, 50, "")
	turns(t, nil, nil, blobsOf(allTexts...), 50, "")
	// They are in no pair, though they could be.
	turns(t, list(file("a", full), file("b", none)), list(file("a", none), file("c", full)), blobsOf(allTexts...), 50, "a>a, b>, >c")
}

// TestTurnsOfPairs: 10.6, gone and new files, with the same id and with others; how alike they must be.
func TestTurnsOfPairs(t *testing.T) {
	every := blobsOf(allTexts...)
	for _, c := range []struct {
		from, to string
		blobs    []api.Object
		least    int
		want     string
	}{
		// The same id: with no blobs, whatever the mode.
		{full, full, nil, 50, "g>n 100"}, {full, full, every, 100, "g>n 100"}, {full, full, every, 101, "g>, >n"}, {"", "", nil, 100, "g>n 100"},
		// Others: by their bytes.
		{full, most, every, 50, "g>n 75"}, {full, most, every, 75, "g>n 75"}, {full, most, every, 76, "g>, >n"}, {full, half, every, 50, "g>n 50"}, {full, half, every, 51, "g>, >n"}, {full, quarter, every, 25, "g>n 25"},
		{full, turned, every, 100, "g>n 100"}, {full, turned, every, 101, "g>, >n"}, {full, turned, every, math.MaxInt, "g>, >n"},
		// Below 1 is 1: what has nothing in common is no pair.
		{full, none, every, 1, "g>, >n"}, {full, none, every, 0, "g>, >n"}, {full, none, every, -1, "g>, >n"}, {full, none, every, math.MinInt, "g>, >n"}, {full, "", blobsOf(full, ""), 0, "g>, >n"}, {full, quarter, every, math.MinInt, "g>n 25"}, {full, full, nil, 0, "g>n 100"},
		{"a\n" + strings.Repeat("x", 396), "a\n", blobsOf("a\n"+strings.Repeat("x", 396), "a\n"), 0, "g>n 1"}, {"a\n" + strings.Repeat("x", 397), "a\n", blobsOf("a\n"+strings.Repeat("x", 397), "a\n"), 0, "g>, >n"},
		// Blobs that are not there, on one side or on both.
		{full, most, nil, 1, "g>, >n"}, {full, most, blobsOf(full), 1, "g>, >n"}, {full, most, blobsOf(most), 1, "g>, >n"}, {full, most, blobsOf(most, full), 1, "g>n 75"}, {full, most, blobsOf(full, none, most, full, most), 1, "g>n 75"}, {full, full, blobsOf(none), 1, "g>n 100"},
	} {
		turns(t, list(file("g", c.from)), list(file("n", c.to)), c.blobs, c.least, c.want)
	}
}

// TestTurnsOfLinks: 10.6, links are paired by their ids alone; the other modes do not matter.
func TestTurnsOfLinks(t *testing.T) {
	for _, c := range []struct {
		from, to api.Mode
		text     string
		want     string
	}{
		{api.LinkMode, api.LinkMode, full, "g>n 100"}, {api.LinkMode, api.FileMode, full, "g>n 100"}, {api.ExecMode, api.LinkMode, full, "g>n 100"}, {api.FileMode, api.ExecMode, full, "g>n 100"},
		{api.LinkMode, api.LinkMode, most, "g>, >n"}, {api.LinkMode, api.FileMode, most, "g>, >n"}, {api.FileMode, api.LinkMode, most, "g>, >n"}, {api.ExecMode, api.LinkMode, most, "g>, >n"},
		{api.FileMode, api.ExecMode, most, "g>n 75"}, {api.ExecMode, api.FileMode, most, "g>n 75"}, {api.ExecMode, api.ExecMode, most, "g>n 75"},
	} {
		turns(t, list(as(c.from, file("g", full))), list(as(c.to, file("n", c.text))), blobsOf(allTexts...), 1, c.want)
	}
	// One id is a link's here and a file's there.
	turns(t, list(as(api.LinkMode, file("a", full)), file("b", full)), list(file("n", most)), blobsOf(allTexts...), 1, "a>, b>n 75")
	turns(t, list(file("g", most)), list(as(api.LinkMode, file("a", full)), file("b", full)), blobsOf(allTexts...), 1, ">a, g>b 75")
}

// TestTurnsOfOtherObjects: 10.6, only blobs have a file's bytes: no objects of other kinds, none that are too long.
func TestTurnsOfOtherObjects(t *testing.T) {
	tree := api.Object{Kind: api.Tree, Data: []byte("a\nb\n")}
	treeID, err := object.ID(tree)
	if err != nil {
		t.Fatal(err)
	}
	g := api.Entry{Path: "g", Mode: api.FileMode, ID: treeID}
	turns(t, list(g), list(file("n", "a\nb\nc\n")), list(tree, blob("a\nb\nc\n")), 1, "g>, >n")
	x, y := strings.Repeat("b\n", api.MaxBlob/2), strings.Repeat("b\n", api.MaxBlob/2-1)+"c\n"
	long := blob("a\n" + x)
	turns(t, list(api.Entry{Path: "g", Mode: api.FileMode}), list(file("n", x), file("o", "")), list(long, blob(x), blob(""), api.Object{Kind: 9}, api.Object{}), 1, "g>, >n, >o")
	// Of nought there is no blob; but it is the same as nought.
	turns(t, list(api.Entry{Path: "g", Mode: api.FileMode}), list(api.Entry{Path: "n", Mode: api.ExecMode}), list(long, api.Object{}), 1, "g>n 100")
	// As long as can be.
	turns(t, list(file("g", x)), list(file("n", y)), blobsOf(x, y), 99, "g>n 99")
}

// TestTurnsInTurn: 10.6, which pairs are taken first: those with the same id, then the greatest similarity, then by the gone one's path, then by the new one's; each file is in one.
func TestTurnsInTurn(t *testing.T) {
	every := blobsOf(allTexts...)
	for _, c := range []struct {
		was, now []api.Entry
		want     string
	}{
		// The same id goes ahead of what is as similar by its bytes, though its paths come later.
		{list(file("a", turned), file("b", full)), list(file("n", full)), "a>, b>n 100"},
		{list(file("g", full)), list(file("m", turned), file("n", full)), ">m, g>n 100"},
		{list(file("a", turned), file("b", full)), list(file("m", full), file("n", turned)), "b>m 100, a>n 100"},
		{list(file("a", turned), file("b", full)), list(file("m", full), file("n", most)), "b>m 100, a>n 75"},
		// The greatest similarity.
		{list(file("a", most), file("b", turned)), list(file("n", full)), "a>, b>n 100"},
		{list(file("a", half), file("b", most)), list(file("n", full)), "a>, b>n 75"},
		{list(file("g", full)), list(file("m", half), file("n", most), file("o", quarter)), ">m, g>n 75, >o"},
		{list(file("a", quarter), file("b", half)), list(file("m", full), file("n", most)), "a>m 25, b>n 75"},
		// The same: by the paths, the gone one's first.
		{list(file("b", full), file("a", full), file("c", full)), list(file("n", full)), "b>, c>, a>n 100"},
		{list(file("g", full)), list(file("o", full), file("n", full), file("p", full)), "g>n 100, >o, >p"},
		{list(file("b", full), file("a", full), file("c", full)), list(file("o", full), file("n", full)), "c>, a>n 100, b>o 100"},
		{list(file("b", full), file("a", full)), list(file("o", most), file("n", most), file("p", most)), "a>n 75, b>o 75, >p"},
		{list(file("x", full), file("y", turned)), list(file("b", most), file("a", most)), "x>a 75, y>b 75"},
		{list(file("a.b", full), file("a/b", full), file("a0", full)), list(file("n", full), file("o", full)), "a0>, a.b>n 100, a/b>o 100"},
		{list(file("Z", full), file("a", full), file("\xff", full), file("é", full)), list(file("n", full)), "a>, Z>n 100, é>, \xff>"},
		// A file that is taken leaves the next one to others.
		{list(file("a", full), file("b", most)), list(file("m", full), file("n", half)), "a>m 100, b>n 75"},
		{list(file("a", full), file("b", turned)), list(file("m", turned), file("n", quarter)), "b>m 100, a>n 25"},
	} {
		turns(t, c.was, c.now, every, 1, c.want)
	}
}

// TestTurnsOrder: 10.6, all in order: by To's path, or From's, if there is no To.
func TestTurnsOrder(t *testing.T) {
	was := list(file("c", full), file("a", none), file("kept", none), file("z", most), file("m", "gone\n"), file("d/x", quarter))
	now := list(file("a", half), file("kept", none), file("b", full), file("new", "new\n"), file("d", turned), file("zz", "last"))
	turns(t, was, now, blobsOf(allTexts...), 60, "a>a, c>b 100, z>d 75, d/x>, m>, >new, >zz")
	turns(t, was, now, nil, 60, "a>a, c>b 100, >d, d/x>, m>, >new, z>, >zz")
	turns(t, was, now, nil, 101, "a>a, >b, c>, >d, d/x>, m>, >new, z>, >zz")
	turns(t, was, nil, nil, 1, "a>, c>, d/x>, kept>, m>, z>")
	turns(t, nil, now, nil, 1, ">a, >b, >d, >kept, >new, >zz")
}

// TestTurnsErrors: 10.6, the errors of stage.Write, those of was first; then stages that are not 0.
func TestTurnsErrors(t *testing.T) {
	right := file("a", full)
	path := list(file("a//b", full))
	twice := list(right, right)
	clash := list(right, file("a/b", full))
	mode := list(as(api.DirMode, right))
	size := list(api.Entry{Path: "a", Mode: api.FileMode, Size: -1})
	stage4 := list(api.Entry{Path: "a", Mode: api.FileMode, Stage: 4})
	unmerged := list(api.Entry{Path: "a", Mode: api.FileMode, Stage: 1}, api.Entry{Path: "a", Mode: api.FileMode, Stage: 3})
	mixed := list(file("b", full), api.Entry{Path: "a", Mode: api.FileMode, Stage: 2})
	var many []api.Entry
	for i := range api.MaxEntries + 1 {
		many = append(many, file(fmt.Sprint(i), full))
	}
	for _, c := range []struct {
		name     string
		was, now []api.Entry
		want     api.Errno
	}{
		{"a path, was", path, nil, api.ErrPath}, {"a path, now", nil, path, api.ErrPath}, {"no path", nil, list(api.Entry{Mode: api.FileMode}), api.ErrPath},
		{"twice, was", twice, nil, api.ErrStage}, {"twice, now", list(right), twice, api.ErrStage}, {"a clash, was", clash, nil, api.ErrPath}, {"a clash, now", list(right), clash, api.ErrPath},
		{"a mode", mode, nil, api.ErrStage}, {"a mode, now", nil, mode, api.ErrStage}, {"a size", size, nil, api.ErrStage}, {"a stage", nil, stage4, api.ErrStage}, {"many, was", many, nil, api.ErrStage}, {"many, now", nil, many, api.ErrStage},
		{"was first: a path, then a stage", path, twice, api.ErrPath}, {"was first: a stage, then a path", twice, path, api.ErrStage}, {"was first: a clash, then a stage", clash, stage4, api.ErrPath},
		{"not merged, was", unmerged, nil, api.ErrMerge}, {"not merged, now", nil, unmerged, api.ErrMerge}, {"one not merged, was", mixed, nil, api.ErrMerge}, {"one not merged, now", list(right), mixed, api.ErrMerge}, {"both not merged", unmerged, unmerged, api.ErrMerge},
		{"Write's errors of now ahead of ErrMerge of was", unmerged, path, api.ErrPath}, {"likewise", mixed, twice, api.ErrStage}, {"and of was", twice, unmerged, api.ErrStage},
	} {
		refusedTurns(t, c.name, c.was, c.now, c.want)
	}
	if l, err := diff.Turns(many[1:], nil, nil, 50); err != nil || len(l) != api.MaxEntries {
		t.Errorf("as many as can be: %d, %v", len(l), err)
	}
	if l, err := diff.Turns(nil, many[1:], nil, 50); err != nil || len(l) != api.MaxEntries {
		t.Errorf("as many as can be, now: %d, %v", len(l), err)
	}
}

// TestTurnsOfMany: P1, as many gone and new files as can be: all with one id, all with others that are alike, all without a text.
func TestTurnsOfMany(t *testing.T) {
	was, now := make([]api.Entry, api.MaxEntries), make([]api.Entry, api.MaxEntries)
	fill := func(from, to func(i int) string) []api.Object {
		var blobs []api.Object
		for i := range was {
			x, y := from(i), to(i)
			was[i], now[i] = file(fmt.Sprintf("g%04d", i), x), file(fmt.Sprintf("n%04d", i), y)
			blobs = append(blobs, blob(x), blob(y))
		}
		return blobs
	}
	pairsAre := func(name string, blobs []api.Object, similarity int, partner func(i int) int) {
		t.Helper()
		got, err := diff.Turns(was, now, blobs, 1)
		if err != nil || len(got) != api.MaxEntries {
			t.Fatalf("%s: %d turns, %v", name, len(got), err)
		}
		for i, x := range got {
			if want := (api.Turn{From: was[partner(i)], To: now[i], Similarity: similarity}); x != want {
				t.Fatalf("%s: %+v, not %+v", name, x, want)
			}
		}
	}
	itself := func(i int) int { return i }
	fill(func(int) string { return full }, func(int) string { return full })
	pairsAre("one id", nil, 100, itself)
	blobs := fill(func(i int) string { return fmt.Sprintf("1\n2\n3\ng%04d\n", i) }, func(i int) string { return fmt.Sprintf("1\n2\n3\nn%04d\n", i) })
	pairsAre("all as alike as others", blobs, 50, itself)
	back := func(i int) int { return api.MaxEntries - 1 - i }
	blobs = fill(func(i int) string { return fmt.Sprintf("1\n2\n3\n%010d\n", i) }, func(i int) string { return fmt.Sprintf("1\n2\n3\n%010d\n4\n", back(i)) })
	pairsAre("each most alike to one", blobs, 94, back)
	if l, err := diff.Turns(was, now, nil, 1); err != nil || len(l) != 2*api.MaxEntries {
		t.Errorf("without texts: %d, %v", len(l), err)
	}
	slices.Reverse(was)
	pairsAre("in another order", blobs, 94, itself)
}
