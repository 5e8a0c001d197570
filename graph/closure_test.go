package graph_test

import (
	"strconv"
	"strings"
	"testing"

	"gitlike/api"
	"gitlike/object"
)

// noTree, noCommit and noTag have ids, but their bytes are not right: Links answers an error for them.
var (
	noTree   = api.Object{Kind: api.Tree, Data: []byte("no tree")}
	noCommit = api.Object{Kind: api.Commit, Data: []byte("no commit")}
	noTag    = api.Object{Kind: api.Tag, Data: []byte("no tag")}
)

// treeOf is a tree of these ids, as files.
func treeOf(l ...api.ID) api.Object {
	var e []api.TreeEntry
	for i, id := range l {
		e = append(e, api.TreeEntry{Mode: api.FileMode, Name: strconv.Itoa(100000 + i), ID: id})
	}
	return api.Object{Kind: api.Tree, Data: must(object.WriteTree(e))}
}

// TestClosure: 9.4, of each kind of object, and what it names.
func TestClosure(t *testing.T) {
	x, y, aside := blob("x"), blob("y"), blob("aside")
	none, in, top := tree(), tree(x), tree(y, tree(x))
	first := commit(top)
	second := commit(in, first)
	third := commit(none, second, first)
	mark := tag(third)
	l := []api.Object{x, y, aside, none, in, top, first, second, third, mark, tag(mark), tag(x), tag(in)}
	for _, c := range []struct {
		name string
		from []api.ID
		want []api.Object
	}{
		{"nothing", nil, nil},
		{"nothing, in a list", []api.ID{}, nil},
		{"a blob", idsOf(x), l[:1]},
		{"a tree of nothing", idsOf(none), []api.Object{none}},
		{"a tree", idsOf(in), []api.Object{in, x}},
		{"a tree of a tree", idsOf(top), []api.Object{top, in, x, y}},
		{"a commit", idsOf(first), []api.Object{first, top, in, x, y}},
		{"a commit with a parent", idsOf(second), []api.Object{second, first, top, in, x, y}},
		{"a commit with two", idsOf(third), []api.Object{third, second, first, none, top, in, x, y}},
		{"a tag of a commit", idsOf(mark), []api.Object{mark, third, second, first, none, top, in, x, y}},
		{"a tag of a tag", idsOf(tag(mark)), []api.Object{tag(mark), mark, third, second, first, none, top, in, x, y}},
		{"a tag of a blob", idsOf(tag(x)), []api.Object{tag(x), x}},
		{"a tag of a tree", idsOf(tag(in)), []api.Object{tag(in), in, x}},
		{"two", idsOf(x, none), []api.Object{x, none}},
		{"one twice", idsOf(in, in), []api.Object{in, x}},
		{"one often, beside others", idsOf(x, in, x, aside, in, x), []api.Object{in, x, aside}},
		{"one and what it names", idsOf(in, x, second, first), []api.Object{second, first, top, in, x, y}},
		{"all", idsOf(l...), l},
	} {
		closure(t, c.name, l, c.from, c.want...)
		// What is not reached may be missing, or not right.
		closure(t, c.name+", alone", c.want, c.from, c.want...)
		closure(t, c.name+", beside what is not right", append(c.want[:len(c.want):len(c.want)], noTree, noCommit, noTag), c.from, c.want...)
	}
	closure(t, "nothing of nothing", nil, nil)
}

// TestClosureShared: 9.4, objects that share what they name, each once.
func TestClosureShared(t *testing.T) {
	x := blob("x")
	low := tree(x, x, x)
	a, b := tree(low, x), tree(x, low, low)
	c, d := commit(a), commit(b)
	e := commit(low, c, d)
	l := []api.Object{x, low, a, b, c, d, e}
	closure(t, "all ways", l, idsOf(e), l...)
	closure(t, "both", l, idsOf(c, d), x, low, a, b, c, d)
	// Each tree names the one below it often: 2 to the power of 60 ways lead down.
	deep := []api.Object{x}
	for range 60 {
		deep = append(deep, tree(deep[len(deep)-1], deep[len(deep)-1]))
	}
	closure(t, "very many ways", deep, idsOf(deep[60]), deep...)
}

// TestClosureMissing: 9.4, an object that is not there: as what is asked for, at the front, in the middle, at the end, and below.
func TestClosureMissing(t *testing.T) {
	a, b, c := blob("a"), blob("b"), blob("c")
	flat := tree(a, b, c)
	top := tree(a, tree(b, c))
	old := commit(flat)
	now := commit(top, old)
	l := []api.Object{a, b, c, flat, top, tree(b, c), old, now, tag(now)}
	without := func(gone ...api.Object) []api.Object {
		var left []api.Object
		for _, o := range l {
			kept := true
			for _, g := range gone {
				kept = kept && idOf(g) != idOf(o)
			}
			if kept {
				left = append(left, o)
			}
		}
		return left
	}
	missing(t, "of nothing", nil, idsOf(a), idOf(a))
	missing(t, "nought", l, []api.ID{{}}, api.ID{})
	missing(t, "asked for, first", without(a), idsOf(a, b), idOf(a))
	missing(t, "asked for, in the middle", without(b), idsOf(a, b, c), idOf(b))
	missing(t, "asked for, last", without(c), idsOf(a, b, c), idOf(c))
	missing(t, "asked for twice", without(c), idsOf(c, c), idOf(c))
	missing(t, "named at the front", without(a), idsOf(flat), idOf(a))
	missing(t, "named in the middle", without(b), idsOf(flat), idOf(b))
	missing(t, "named at the end", without(c), idsOf(flat), idOf(c))
	missing(t, "below", without(c), idsOf(top), idOf(c))
	missing(t, "a directory", without(tree(b, c)), idsOf(top), idOf(tree(b, c)))
	missing(t, "a commit's tree", without(flat), idsOf(old), idOf(flat))
	missing(t, "a commit's parent", without(old), idsOf(now), idOf(old))
	missing(t, "a parent's tree", without(flat), idsOf(now), idOf(flat))
	missing(t, "a tag's target", without(now), idsOf(tag(now)), idOf(now))
	missing(t, "far below a tag", without(c), idsOf(tag(now)), idOf(c))
	missing(t, "nothing but it", []api.Object{flat}, idsOf(flat), idOf(a))
}

// TestClosureFirstMissing: 9.4, of several that are missing the first one is told: an object, then what it names, each with all below it.
func TestClosureFirstMissing(t *testing.T) {
	a, b, c, d := blob("a"), blob("b"), blob("c"), blob("d")
	low := tree(b, c)
	top := tree(low, a)
	missing(t, "two asked for", nil, idsOf(b, a), idOf(b))
	missing(t, "the other way round", nil, idsOf(a, b), idOf(a))
	missing(t, "two named", []api.Object{low}, idsOf(low), idOf(b))
	missing(t, "below the first ahead of the second", []api.Object{top, low}, idsOf(top), idOf(b))
	missing(t, "below the first, the second one", []api.Object{top, low, b}, idsOf(top), idOf(c))
	missing(t, "the first ahead of what is below it", []api.Object{top}, idsOf(top), idOf(low))
	missing(t, "below the first that is asked for", []api.Object{top, low}, idsOf(top, d), idOf(b))
	missing(t, "what was asked for first, though it is named too", []api.Object{top, low, b, c}, idsOf(d, top), idOf(d))
	// What was gone through already is passed over: low's blobs come where it is met first.
	other := tree(d, low)
	missing(t, "met twice", []api.Object{top, other, low, a, b}, idsOf(other, top), idOf(d))
	missing(t, "met twice, the other way round", []api.Object{top, other, low, a, b}, idsOf(top, other), idOf(c))
	missing(t, "met once more behind", []api.Object{top, other, low, a, b, c}, idsOf(top, other), idOf(d))
	// A commit's tree, with all below it, comes ahead of its parents, and these in their order.
	p, q := commit(tree(c)), commit(tree(d))
	r := commit(top, q, p)
	l := []api.Object{r, top, low, p, q, tree(c), tree(d)}
	missing(t, "the tree first", l, idsOf(r), idOf(b))
	missing(t, "the tree with all below it", append(l, b, c), idsOf(r), idOf(a))
	missing(t, "then the first parent", append(l, a, b, c), idsOf(r), idOf(d))
	missing(t, "the parent itself", []api.Object{r, top, low, a, b, c, p}, idsOf(r), idOf(q))
	missing(t, "then the second parent", append(l[:5:5], a, b, c, d, tree(d)), idsOf(r), idOf(tree(c)))
}

// TestClosureSpoilt: 9.4, the errors of Links, of each kind, wherever the object is met.
func TestClosureSpoilt(t *testing.T) {
	x := blob("x")
	for want, bad := range map[api.Errno]api.Object{api.ErrTree: noTree, api.ErrCommit: noCommit, api.ErrTag: noTag} {
		for name, top := range map[string]api.Object{
			"itself":          bad,
			"a file's":        tree(x, bad),
			"a commit's tree": commit(bad),
			"a parent":        commit(tree(), commit(tree()), bad),
			"a tag's target":  tag(bad),
			"below":           tag(commit(tree(tree(x, bad)))),
		} {
			l := []api.Object{x, tree(), tree(x, bad), tree(tree(x, bad)), commit(tree()), commit(tree(tree(x, bad))), bad, top}
			spoilt(t, name, l, idsOf(top), want)
			spoilt(t, name+", last", l, idsOf(x, tree(), top), want)
			spoilt(t, name+", twice", l, idsOf(top, top), want)
		}
	}
	// Objects with bytes that are nearly right.
	spoilt(t, "a tree out of order", []api.Object{x, {Kind: api.Tree, Data: append(tree(x, x).Data[33:], tree(x).Data...)}}, idsOf(api.Object{Kind: api.Tree, Data: append(tree(x, x).Data[33:], tree(x).Data...)}), api.ErrTree)
	cut := commit(tree())
	cut.Data = cut.Data[:len(cut.Data)-1]
	spoilt(t, "a commit that is cut", []api.Object{tree(), cut}, idsOf(cut), api.ErrCommit)
	long := tag(x)
	long.Data = append(long.Data, 0)
	spoilt(t, "a tag with a byte 0", []api.Object{x, long}, idsOf(long), api.ErrTag)
}

// TestClosureFirstError: 9.4, of what is missing and what is not right the first one is told.
func TestClosureFirstError(t *testing.T) {
	x, gone := blob("x"), blob("gone")
	spoilt(t, "not right ahead", []api.Object{x, noTree}, idsOf(x, noTree, gone), api.ErrTree)
	missing(t, "missing ahead", []api.Object{x, noTree}, idsOf(x, gone, noTree), idOf(gone))
	ahead, behind := tree(noTree, gone), tree(gone, noTree)
	l := []api.Object{x, noTree, noTag, ahead, behind}
	spoilt(t, "not right ahead in a tree", l, idsOf(ahead), api.ErrTree)
	missing(t, "missing ahead in a tree", l, idsOf(behind), idOf(gone))
	spoilt(t, "two trees", l, idsOf(ahead, behind), api.ErrTree)
	missing(t, "two trees, turned", l, idsOf(behind, ahead), idOf(gone))
	spoilt(t, "two that are not right", l, idsOf(noTag, noTree), api.ErrTag)
	spoilt(t, "two that are not right, turned", l, idsOf(noTree, noTag), api.ErrTree)
	// Ahead of it in the list, but not in the order of going through.
	c := commit(behind, noCommit)
	missing(t, "the tree ahead of the parents", []api.Object{noCommit, c, behind, noTree}, idsOf(c), idOf(gone))
	d := commit(tree(x), noCommit)
	spoilt(t, "a parent ahead of what is asked for behind it", []api.Object{noCommit, d, tree(x), x}, idsOf(d, gone), api.ErrCommit)
	missing(t, "below the tree ahead of the parent", []api.Object{noCommit, d, tree(x)}, idsOf(d, noTag), idOf(x))
	// An object that is not right names nothing, whatever its bytes begin with.
	half := tree(gone)
	half.Data = append(half.Data, "more"...)
	spoilt(t, "half a tree", []api.Object{half}, idsOf(half), api.ErrTree)
}

// TestClosureOneID: 9.4, objects that are there twice, and objects without an id.
func TestClosureOneID(t *testing.T) {
	x := blob("x")
	l := []api.Object{x, tree(x), blob("x"), tree(x), x, commit(tree(x)), commit(tree(x))}
	closure(t, "twice", l, idsOf(commit(tree(x))), commit(tree(x)), tree(x), x)
	spoilt(t, "twice, not right", []api.Object{noTree, noTree, x}, idsOf(noTree), api.ErrTree)
	long := api.Object{Kind: api.Blob, Data: make([]byte, api.MaxBlob+1)}
	most := api.Object{Kind: api.Blob, Data: make([]byte, api.MaxBlob)}
	var strange []api.Object
	for _, k := range []api.Kind{0, -1, 5, 1 << 40, -1 << 40} {
		strange = append(strange, api.Object{Kind: k, Data: []byte("x")}, api.Object{Kind: k})
	}
	strange = append(strange, long, api.Object{Kind: api.Tree, Data: long.Data}, api.Object{})
	closure(t, "beside ones without an id", append(strange, l...), idsOf(tree(x)), tree(x), x)
	closure(t, "the longest", append(strange, most), idsOf(most), most)
	missing(t, "ones without an id alone", strange, idsOf(x), idOf(x))
	missing(t, "nought is the id of none", strange, []api.ID{{}}, api.ID{})
	missing(t, "a tree of nought", append(strange, treeOf(api.ID{})), idsOf(treeOf(api.ID{})), api.ID{})
	closure(t, "one of nothing", []api.Object{{Kind: api.Blob}, {Kind: api.Tree}}, idsOf(api.Object{Kind: api.Blob}, api.Object{Kind: api.Tree}), blob(""), tree())
}

// TestClosureKinds: 9.4, what names an object need not fit its kind: a directory that is a blob, a file that is a commit, a commit's tree that is a tag.
func TestClosureKinds(t *testing.T) {
	x := blob("x")
	dir := api.Object{Kind: api.Tree, Data: must(object.WriteTree([]api.TreeEntry{{Mode: api.DirMode, Name: "d", ID: idOf(x)}}))}
	c := commit(x, dir)
	odd := tree(c, dir)
	m := api.Object{Kind: api.Tag, Data: must(object.WriteTag(api.TagInfo{Target: idOf(odd), Kind: api.Blob, Name: "v"}))}
	l := []api.Object{x, dir, c, odd, m, commit(m, x)}
	closure(t, "all", l, idsOf(commit(m, x)), l...)
}

// TestClosureLong: P1, long rows and wide trees: no depth is too great.
func TestClosureLong(t *testing.T) {
	l := []api.Object{tree()}
	l = append(l, commit(l[0]))
	for range 3000 {
		l = append(l, commit(l[0], l[len(l)-1]))
	}
	for range 3000 {
		l = append(l, tag(l[len(l)-1]))
	}
	closure(t, "a row", l, idsOf(l[len(l)-1]), l...)
	missing(t, "a row without its end", l[1:], idsOf(l[len(l)-1]), idOf(l[0]))
	var wide []api.Object
	for i := range 2000 {
		wide = append(wide, blob(strings.Repeat("b", i)))
	}
	wide = append(wide, tree(wide...), commit(tree(wide...)))
	closure(t, "a wide tree", wide, idsOf(wide[2001]), wide...)
	missing(t, "a wide tree without its last", append(wide[:1999:1999], wide[2000:]...), idsOf(wide[2001]), idOf(wide[1999]))
}
