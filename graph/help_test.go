package graph_test

import (
	"encoding/binary"
	"errors"
	"fmt"
	"slices"
	"strconv"
	"strings"
	"testing"

	"gitlike/api"
	"gitlike/graph"
	"gitlike/object"
)

// nodes makes of each text a node: its name, a letter; its time; the names of its parents.
func nodes(texts ...string) []api.Node {
	var l []api.Node
	for _, s := range texts {
		f := strings.Fields(s)
		time, err := strconv.ParseInt(f[1], 10, 64)
		if err != nil {
			panic(err)
		}
		n := api.Node{ID: id(f[0]), Time: time}
		if len(f) > 2 {
			n.Parents = ids(f[2])
		}
		l = append(l, n)
	}
	return l
}

// id is the id of a letter: the greater letter has the greater id.
func id(s string) api.ID { return api.ID{s[0]} }

func ids(s string) []api.ID {
	var l []api.ID
	for i := range len(s) {
		l = append(l, id(s[i:]))
	}
	return l
}

// text is the letters of ids.
func text(l []api.ID) string {
	s := ""
	for _, id := range l {
		s += string(id[:1])
	}
	return s
}

// num is the id of a number: the greater number has the greater id, and most differ in the last bytes alone.
func num(n int) (id api.ID) {
	binary.BigEndian.PutUint32(id[16:], uint32(n))
	return id
}

// nums is the ids of numbers.
func nums(l ...int) []api.ID {
	var ids []api.ID
	for _, n := range l {
		ids = append(ids, num(n))
	}
	return ids
}

// row is so many nodes, each with the one ahead of it as its parent, all at one time.
func row(n int) []api.Node {
	var l []api.Node
	for i := range n {
		l = append(l, api.Node{ID: num(i)})
		if i > 0 {
			l[i].Parents = nums(i - 1)
		}
	}
	return l
}

// turned is a list backwards.
func turned[T any](l []T) []T {
	l = slices.Clone(l)
	slices.Reverse(l)
	return l
}

// refused wants all calls to answer ErrGraph, and nothing else, whichever of these ids is asked for, and if none is.
func refused(t *testing.T, name string, l []api.Node, asked ...api.ID) {
	t.Helper()
	for _, l := range [][]api.Node{l, turned(l)} {
		if err := graph.Check(l); api.Tell(err) != api.ErrGraph {
			t.Errorf("%s: Check: %v", name, err)
		}
		for _, f := range [][]api.ID{nil, asked} {
			refusedOrder(t, name, l, f, nil)
			refusedOrder(t, name, l, nil, f)
			refusedReduce(t, name, l, f)
		}
		for _, a := range asked {
			for _, b := range asked {
				refusedTwo(t, name, l, a, b)
			}
		}
	}
}

func refusedOrder(t *testing.T, name string, l []api.Node, from, not []api.ID) {
	t.Helper()
	if got, err := graph.Order(l, from, not); len(got) != 0 || api.Tell(err) != api.ErrGraph {
		t.Errorf("%s: Order: %x, %v", name, got, err)
	}
}

func refusedReduce(t *testing.T, name string, l []api.Node, some []api.ID) {
	t.Helper()
	if got, err := graph.Reduce(l, some); len(got) != 0 || api.Tell(err) != api.ErrGraph {
		t.Errorf("%s: Reduce: %x, %v", name, got, err)
	}
}

// refusedTwo wants the calls that ask for two ids to answer ErrGraph.
func refusedTwo(t *testing.T, name string, l []api.Node, a, b api.ID) {
	t.Helper()
	if got, err := graph.Reaches(l, a, b); got || api.Tell(err) != api.ErrGraph {
		t.Errorf("%s: Reaches: %v, %v", name, got, err)
	}
	if got, err := graph.Bases(l, a, b); len(got) != 0 || api.Tell(err) != api.ErrGraph {
		t.Errorf("%s: Bases: %x, %v", name, got, err)
	}
}

// right wants Check to answer no error.
func right(t *testing.T, name string, l []api.Node) {
	t.Helper()
	for _, l := range [][]api.Node{l, turned(l)} {
		if err := graph.Check(l); err != nil {
			t.Errorf("%s: Check: %v", name, err)
		}
	}
}

// order wants Order to tell these ids, in whatever order the nodes and the ids that are asked for are.
func order(t *testing.T, l []api.Node, from, not, want []api.ID) {
	t.Helper()
	for _, l := range [][]api.Node{l, turned(l)} {
		for _, from := range [][]api.ID{from, turned(from)} {
			for _, not := range [][]api.ID{not, turned(not)} {
				got, err := graph.Order(l, from, not)
				if err != nil || !slices.Equal(got, want) {
					t.Errorf("Order of %s and not %s: %s, %v, not %s", brief(from), brief(not), brief(got), err, brief(want))
				}
			}
		}
	}
}

// reaches wants Reaches to tell that.
func reaches(t *testing.T, l []api.Node, from, to api.ID, want bool) {
	t.Helper()
	for _, l := range [][]api.Node{l, turned(l)} {
		if got, err := graph.Reaches(l, from, to); err != nil || got != want {
			t.Errorf("Reaches from %x to %x: %v, %v", from, to, got, err)
		}
	}
}

// bases wants Bases to tell these ids, both ways round.
func bases(t *testing.T, l []api.Node, a, b api.ID, want []api.ID) {
	t.Helper()
	for _, l := range [][]api.Node{l, turned(l)} {
		got, err := graph.Bases(l, a, b)
		back, err2 := graph.Bases(l, b, a)
		if err != nil || err2 != nil || !slices.Equal(got, want) || !slices.Equal(back, want) {
			t.Errorf("Bases of %x and %x: %s, %v; back: %s, %v; not %s", a, b, brief(got), err, brief(back), err2, brief(want))
		}
	}
}

// reduce wants Reduce to leave these ids.
func reduce(t *testing.T, l []api.Node, some, want []api.ID) {
	t.Helper()
	for _, l := range [][]api.Node{l, turned(l)} {
		for _, some := range [][]api.ID{some, turned(some)} {
			if got, err := graph.Reduce(l, some); err != nil || !slices.Equal(got, want) {
				t.Errorf("Reduce of %s: %s, %v, not %s", brief(some), brief(got), err, brief(want))
			}
		}
	}
}

// brief is the first of ids, for a test that tells of them.
func brief(l []api.ID) string {
	s := strconv.Itoa(len(l)) + " ids"
	for _, id := range l[:min(len(l), 20)] {
		s += fmt.Sprintf(" %x..%x", id[:1], id[17:])
	}
	return s
}

// idOf is the id of an object that has one.
func idOf(o api.Object) api.ID {
	id, err := object.ID(o)
	if err != nil {
		panic(err)
	}
	return id
}

// idsOf is the ids of objects, in their order.
func idsOf(l ...api.Object) []api.ID {
	var ids []api.ID
	for _, o := range l {
		ids = append(ids, idOf(o))
	}
	return ids
}

func blob(s string) api.Object { return api.Object{Kind: api.Blob, Data: []byte(s)} }

// tree is a tree that has these as files and directories, in this order.
func tree(named ...api.Object) api.Object {
	var l []api.TreeEntry
	for i, o := range named {
		e := api.TreeEntry{Mode: api.FileMode, Name: fmt.Sprintf("%05d", i), ID: idOf(o)}
		if o.Kind == api.Tree {
			e.Mode = api.DirMode
		}
		l = append(l, e)
	}
	return api.Object{Kind: api.Tree, Data: must(object.WriteTree(l))}
}

func commit(tree api.Object, parents ...api.Object) api.Object {
	return api.Object{Kind: api.Commit, Data: must(object.WriteCommit(api.CommitInfo{Tree: idOf(tree), Parents: idsOf(parents...)}))}
}

func tag(target api.Object) api.Object {
	return api.Object{Kind: api.Tag, Data: must(object.WriteTag(api.TagInfo{Target: idOf(target), Kind: target.Kind, Name: "v1"}))}
}

func must(b []byte, err error) []byte {
	if err != nil {
		panic(err)
	}
	return b
}

// byBytes is ids in order, each once.
func byBytes(l []api.ID) []api.ID {
	l = slices.Clone(l)
	slices.SortFunc(l, func(x, y api.ID) int { return strings.Compare(string(x[:]), string(y[:])) })
	return slices.Compact(l)
}

// closure wants Closure to tell just these objects, in whatever order the objects and the ids that are asked for are.
func closure(t *testing.T, name string, l []api.Object, from []api.ID, want ...api.Object) {
	t.Helper()
	for _, l := range [][]api.Object{l, turned(l)} {
		for _, from := range [][]api.ID{from, turned(from)} {
			got, err := graph.Closure(l, from)
			if err != nil || !slices.Equal(got, byBytes(idsOf(want...))) {
				t.Errorf("%s: %s, %v, not %s", name, brief(got), err, brief(byBytes(idsOf(want...))))
			}
		}
	}
}

// missing wants Closure to tell that the object of that id is missing, in whatever order the objects are.
func missing(t *testing.T, name string, l []api.Object, from []api.ID, id api.ID) {
	t.Helper()
	for _, l := range [][]api.Object{l, turned(l)} {
		got, err := graph.Closure(l, from)
		var of *api.IDError
		if len(got) != 0 || !errors.As(err, &of) || *of != (api.IDError{ID: id, Err: api.ErrMissing}) {
			t.Errorf("%s: %s, %v (%T), not that %x is missing", name, brief(got), err, err, id)
		}
	}
}

// spoilt wants Closure to answer that error, in whatever order the objects are.
func spoilt(t *testing.T, name string, l []api.Object, from []api.ID, want api.Errno) {
	t.Helper()
	for _, l := range [][]api.Object{l, turned(l)} {
		if got, err := graph.Closure(l, from); len(got) != 0 || api.Tell(err) != want {
			t.Errorf("%s: %s, %v, not %v", name, brief(got), err, want)
		}
	}
}
