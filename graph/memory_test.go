package graph_test

import (
	"errors"
	"reflect"
	"slices"
	"testing"

	"gitlike/api"
	"gitlike/graph"
)

// marked is an id that stands in the room behind lists: nothing may change it.
var marked = api.ID{0xa5, 19: 0x5a}

// roomy is a list with room behind it, and the whole of it.
func roomy[T any](l []T, behind T) (list, whole []T) {
	whole = append(slices.Clone(l), behind, behind, behind)
	return whole[:len(l)], whole
}

// roomyNodes is nodes with room behind them and behind each one's parents; and a picture of all that, to be held against it later.
func roomyNodes(texts ...string) (l []api.Node, picture func() any) {
	list, whole := roomy(nodes(texts...), api.Node{ID: marked, Time: 77})
	var rooms [][]api.ID
	for i, n := range list {
		parents, room := roomy(n.Parents, marked)
		list[i].Parents = parents
		rooms = append(rooms, room)
	}
	return list, func() any {
		var seen []any
		for i, n := range whole {
			seen = append(seen, n.ID, n.Time, len(n.Parents))
			if i < len(rooms) {
				seen = append(seen, slices.Clone(rooms[i]))
			}
		}
		return seen
	}
}

// same wants what was handed in to be as it was.
func same(t *testing.T, name string, was, is any) {
	t.Helper()
	if !reflect.DeepEqual(was, is) {
		t.Errorf("%s: what was handed in is changed: %v, %v", name, was, is)
	}
}

// TestNodesAreLeftAlone: nodes, their parents, lists of ids, and the room behind all of them.
func TestNodesAreLeftAlone(t *testing.T) {
	for _, texts := range [][]string{
		{"e 3 bc", "d 2 cb", "c 1 a", "b 1 aa", "a 0"},
		{"e 3 bc", "d 2 cb", "c 1 a", "b 1 ad", "a 0"},
		{"e 3 bc", "d 2 cb", "c 1 a", "b 1 ap", "a 0"},
		{"e 3 bc", "d 2 cb", "c 1 a", "c 1 aa", "a 0"},
	} {
		l, picture := roomyNodes(texts...)
		from, wholeFrom := roomy(ids("edcd"), marked)
		not, wholeNot := roomy(ids("ba"), marked)
		was, wasFrom, wasNot := picture(), slices.Clone(wholeFrom), slices.Clone(wholeNot)
		graph.Check(l)
		same(t, "Check", was, picture())
		graph.Order(l, from, not)
		graph.Order(l, not, from)
		same(t, "Order", was, picture())
		graph.Reaches(l, id("e"), id("a"))
		graph.Bases(l, id("e"), id("d"))
		same(t, "Reaches, Bases", was, picture())
		graph.Reduce(l, from)
		graph.Reduce(l, not)
		same(t, "Reduce", was, picture())
		same(t, "from", wasFrom, wholeFrom)
		same(t, "not", wasNot, wholeNot)
	}
}

// TestObjectsAreLeftAlone: objects, their bytes, the ids that are asked for, and the room behind all of them.
func TestObjectsAreLeftAlone(t *testing.T) {
	x := blob("x")
	c := commit(tree(x, x))
	for _, from := range [][]api.ID{idsOf(tag(c), c, x, c), idsOf(c, noTree), idsOf(c, blob("gone"), x)} {
		l, whole := roomy([]api.Object{tag(c), x, noTree, c, tree(x, x), x, {Kind: 9}}, api.Object{Kind: 77})
		var rooms, was [][]byte
		for i := range l {
			data, room := roomy(l[i].Data, 0xa5)
			l[i].Data = data
			rooms, was = append(rooms, room), append(was, slices.Clone(room))
		}
		list, wholeList := roomy(from, marked)
		wasList, wasWhole := slices.Clone(wholeList), slices.Clone(whole)
		graph.Closure(l, list)
		same(t, "the bytes", was, rooms)
		same(t, "the objects", wasWhole, whole)
		same(t, "the ids", wasList, wholeList)
	}
}

// TestAnswersAreNew scribbles over what was handed in, and over each answer: the others, and the next ones, are as they should be.
func TestAnswersAreNew(t *testing.T) {
	x := blob("x")
	c := commit(tree(x))
	for range 3 {
		l := nodes("a 0", "b 1 a", "c 1 a", "d 2 bc", "e 3 bc")
		some := ids("bc")
		from := ids("d")
		objects := []api.Object{x, tree(x), c}
		asked := idsOf(c)
		order, _ := graph.Order(l, from, nil)
		again, _ := graph.Order(l, from, nil)
		bases, _ := graph.Bases(l, id("d"), id("e"))
		left, _ := graph.Reduce(l, some)
		all, _ := graph.Closure(objects, asked)
		for i := range l {
			clear(l[i].Parents)
		}
		clear(l)
		clear(some)
		clear(from)
		clear(objects)
		clear(asked)
		clear(again[:cap(again)])
		if text(order) != "dcba" || text(bases) != "bc" || text(left) != "bc" || !slices.Equal(all, byBytes(idsOf(x, tree(x), c))) {
			t.Errorf("%x, %x, %x, %x", order, bases, left, all)
		}
		for _, answer := range [][]api.ID{order, bases, left, all} {
			clear(answer[:cap(answer)])
		}
	}
}

// TestErrorsAreNew: what is told of an object that is missing is new with each answer.
func TestErrorsAreNew(t *testing.T) {
	var first, second *api.IDError
	_, err := graph.Closure(nil, ids("a"))
	if !errors.As(err, &first) {
		t.Fatal(err)
	}
	*first = api.IDError{}
	_, err = graph.Closure(nil, ids("a"))
	if !errors.As(err, &second) || *second != (api.IDError{ID: id("a"), Err: api.ErrMissing}) {
		t.Fatal(err)
	}
}
