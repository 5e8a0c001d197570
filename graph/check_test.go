package graph_test

import (
	"testing"

	"gitlike/api"
	"gitlike/graph"
)

// TestCheckRight: 9.1, what is a graph.
func TestCheckRight(t *testing.T) {
	for name, l := range map[string][]api.Node{
		"nothing":                nil,
		"an empty list":          {},
		"one":                    nodes("a 0"),
		"one of the id nought":   {{}},
		"two that share nothing": nodes("a 0", "b 0"),
		"a row":                  nodes("a 0", "b 1 a", "c 2 b"),
		"a child that is older":  nodes("a 9", "b 1 a", "c -5 b"),
		"two ways down":          nodes("a 0", "b 1 a", "c 1 a", "d 2 bc"),
		"a long and a short way": nodes("a 0", "b 1 a", "c 2 b", "d 3 ca"),
		"a parent twice":         nodes("a 0", "b 1 aa"),
		"a parent often":         nodes("a 0", "b 1", "c 1 abaabbab"),
		"criss-cross":            nodes("a 0", "b 1 a", "c 1 a", "d 2 bc", "e 2 cb"),
		"nine parents":           nodes("a 0", "b 0", "c 0", "d 0", "e 0", "f 0", "g 0", "h 0", "i 0", "z 1 abcdefghi"),
		"alike but for a byte":   {{ID: num(1)}, {ID: num(2), Parents: nums(1)}, {ID: api.ID{1}, Parents: nums(2)}},
		"2000":                   row(2000),
	} {
		right(t, name, l)
	}
}

// TestCheckWrong: 9.1, each thing that makes nodes no graph, by itself, and all calls then.
func TestCheckWrong(t *testing.T) {
	aside := nodes("x 5", "y 6 x", "z 7 xy")
	for name, l := range map[string][]api.Node{
		"an id twice":                nodes("a 0", "a 1"),
		"an id thrice":               nodes("a 0", "a 0", "a 0"),
		"a node twice":               nodes("a 0", "b 1 a", "b 1 a"),
		"twice, with other parents":  nodes("a 0", "b 1 a", "b 1"),
		"nought twice":               {{}, {}, {ID: id("a")}},
		"a parent that is not there": nodes("a 0 p"),
		"the second of two":          nodes("a 0", "b 1 ap"),
		"the first of two":           nodes("a 0", "b 1 pa"),
		"nought is not there":        {{ID: id("a"), Parents: []api.ID{{}}}},
		"all but for the last byte":  {{ID: id("a")}, {ID: id("b"), Parents: []api.ID{{'a', 19: 1}}}},
		"its own parent":             nodes("a 0 a"),
		"its own second parent":      nodes("a 0", "b 1 ab"),
		"its own parent twice":       nodes("a 0 aa"),
		"a ring of two":              nodes("a 0 b", "b 0 a"),
		"a ring of three":            nodes("a 0 b", "b 0 c", "c 0 a"),
		"a ring with one above":      nodes("a 0 b", "b 0 a", "c 1 a"),
		"a ring with one below":      nodes("a 0 b", "b 0 ac", "c 1"),
		"a ring between":             nodes("a 0", "b 0 ac", "c 1 b", "d 9 c", "e 9 d"),
		"two rings":                  nodes("a 0 b", "b 0 a", "c 0 d", "d 0 c"),
		"two rings that share one":   nodes("a 0 bc", "b 0 a", "c 0 a"),
		"a ring and two ways down":   nodes("a 0 d", "b 1 a", "c 1 a", "d 2 bc"),
	} {
		refused(t, name, l, id("a"), id("b"))
		refused(t, name+", beside others", append(aside, l...), ids("axyz")...)
		refused(t, name+", others alone asked for", append(aside, l...), ids("xyz")...)
	}
}

// TestCheckMany: 9.1, at most MaxEntries nodes.
func TestCheckMany(t *testing.T) {
	var apart []api.Node
	for i := range 2001 {
		apart = append(apart, api.Node{ID: num(i)})
	}
	right(t, "2000 in a row", row(2000))
	right(t, "2000 apart", apart[:2000])
	refused(t, "2001 in a row", row(2001), num(0), num(2000))
	refused(t, "2001 apart", apart, num(0), num(2000))
	refused(t, "20000", row(20000), num(7))
}

// TestCheckFaultsInMany: 9.1, one fault among 2000 nodes, wherever it is.
func TestCheckFaultsInMany(t *testing.T) {
	for _, at := range []int{1, 2, 1000, 1998, 1999} {
		l := row(2000)
		l[at].ID = num(at - 1)
		refused(t, "an id twice", l, num(0))
		l = row(2000)
		l[at].Parents = append(l[at].Parents, num(2000))
		refused(t, "a parent that is not there", l, num(0))
		l = row(2000)
		l[at].Parents = append(l[at].Parents, num(at))
		refused(t, "its own parent", l, num(0))
		l = row(2000)
		l[0].Parents = nums(at)
		refused(t, "a ring of many", l, num(1999))
	}
}

// TestIDsOfNone: 9.1, an id that is none of a node's, in each call and in each place.
func TestIDsOfNone(t *testing.T) {
	l := nodes("a 0", "b 1 a", "c 1 a", "d 2 bc")
	for _, none := range []api.ID{{}, id("e"), {'a', 19: 1}, {'d', 1}, {0xff}} {
		for _, list := range [][]api.ID{{none}, {none, id("d")}, {id("d"), none}, {id("a"), id("b"), none, id("d")}, {none, none}} {
			refusedReduce(t, "none", l, list)
			for _, other := range [][]api.ID{nil, ids("d"), ids("ab"), list} {
				refusedOrder(t, "none in from", l, list, other)
				refusedOrder(t, "none in not", l, other, list)
			}
		}
		for _, other := range append(ids("abcd"), none) {
			refusedTwo(t, "none first", l, none, other)
			refusedTwo(t, "none second", l, other, none)
		}
		refusedTwo(t, "of no nodes", nil, none, none)
		refusedOrder(t, "of no nodes", nil, []api.ID{none}, nil)
		refusedOrder(t, "of no nodes", nil, nil, []api.ID{none})
		refusedReduce(t, "of no nodes", nil, []api.ID{none})
	}
}

// TestParentOfNone: an id that parents alone name is none of a node's.
func TestParentOfNone(t *testing.T) {
	refused(t, "a parent alone", nodes("a 0", "b 1 ap"), id("p"), id("a"))
}

// TestManyEdges: P1, nodes that name all others, and one that names another often, are gone through in time.
func TestManyEdges(t *testing.T) {
	const last = 399
	var l []api.Node
	var all []api.ID
	for i := range last + 1 {
		l = append(l, api.Node{ID: num(i), Parents: all[:i:i]})
		all = append(all, num(i))
	}
	for range 100000 {
		l[last].Parents = append(l[last].Parents, num(0))
	}
	right(t, "each names all below", l)
	order(t, l, nums(last), nil, turned(all))
	bases(t, l, num(last-1), num(last), nums(last-1))
	reduce(t, l, all, nums(last))
	reaches(t, l, num(last), num(0), true)
	l[0].Parents = nums(last)
	if err := graph.Check(l); api.Tell(err) != api.ErrGraph {
		t.Errorf("a ring below all: %v", err)
	}
}
