package graph_test

import (
	"math"
	"math/rand"
	"slices"
	"testing"

	"gitlike/api"
	"gitlike/graph"
	"gitlike/object"
)

// plain is the graph as the document's words say it: by numbers of nodes, which reaches which.
type plain struct {
	l     []api.Node
	reach [][]bool
}

// plainOf is nil, if the nodes are no graph.
func plainOf(l []api.Node) *plain {
	p := &plain{l: l}
	if len(l) > 2000 {
		return nil
	}
	for i, n := range l {
		p.reach = append(p.reach, make([]bool, len(l)))
		p.reach[i][i] = true
		if p.number(n.ID) != i {
			return nil
		}
		for _, parent := range n.Parents {
			if p.number(parent) < 0 {
				return nil
			}
		}
	}
	// A node reaches what one of its parents reaches: as often as anything is new by that.
	for more := true; more; {
		more = false
		for i, n := range l {
			for _, parent := range n.Parents {
				for k, yes := range p.reach[p.number(parent)] {
					more = more || yes && !p.reach[i][k]
					p.reach[i][k] = p.reach[i][k] || yes
				}
			}
		}
	}
	for i, n := range l {
		for _, parent := range n.Parents {
			if p.reach[p.number(parent)][i] {
				return nil
			}
		}
	}
	return p
}

// number is which node has an id: the first one; -1 if none has.
func (p *plain) number(id api.ID) int {
	return slices.IndexFunc(p.l, func(n api.Node) bool { return n.ID == id })
}

// has tells whether all of these are nodes' ids.
func (p *plain) has(l ...api.ID) bool {
	return !slices.ContainsFunc(l, func(id api.ID) bool { return p.number(id) < 0 })
}

// from tells whether one of some reaches a node.
func (p *plain) from(some []api.ID, to int) bool {
	return slices.ContainsFunc(some, func(id api.ID) bool { return p.reach[p.number(id)][to] })
}

// ahead tells whether, of two that may be next, the first one is.
func ahead(a, b api.Node) bool {
	return a.Time > b.Time || a.Time == b.Time && string(a.ID[:]) > string(b.ID[:])
}

func (p *plain) order(from, not []api.ID) []api.ID {
	var left []int
	for i := range p.l {
		if p.from(from, i) && !p.from(not, i) {
			left = append(left, i)
		}
	}
	var l []api.ID
	for len(left) > 0 {
		next := -1
		for _, i := range left {
			free := true
			for _, k := range left {
				free = free && (i == k || !slices.Contains(p.l[k].Parents, p.l[i].ID))
			}
			if free && (next < 0 || ahead(p.l[i], p.l[next])) {
				next = i
			}
		}
		l = append(l, p.l[next].ID)
		left = slices.DeleteFunc(left, func(i int) bool { return i == next })
	}
	return l
}

// tops is, of some, those that no other one reaches.
func (p *plain) tops(some []int) []api.ID {
	var l []api.ID
	for _, i := range some {
		if !slices.ContainsFunc(some, func(k int) bool { return k != i && p.reach[k][i] }) {
			l = append(l, p.l[i].ID)
		}
	}
	return byBytes(l)
}

func (p *plain) bases(a, b api.ID) []api.ID {
	var both []int
	for i := range p.l {
		if p.reach[p.number(a)][i] && p.reach[p.number(b)][i] {
			both = append(both, i)
		}
	}
	return p.tops(both)
}

func (p *plain) reduce(some []api.ID) []api.ID {
	var l []int
	for _, id := range some {
		l = append(l, p.number(id))
	}
	return p.tops(l)
}

// anyID is one of few ids, of which some differ in one byte alone.
func anyID(r *rand.Rand) api.ID {
	id := api.ID{byte(r.Intn(3) * 100)}
	id[10], id[19] = byte(r.Intn(2)), byte(r.Intn(4)*80)
	return id
}

// anyTime is one of few times, so that many are alike.
func anyTime(r *rand.Rand) int64 {
	switch r.Intn(12) {
	case 0:
		return math.MinInt64
	case 1:
		return math.MaxInt64
	}
	return int64(r.Intn(5) - 2)
}

// anyNodes is nodes of which most are a graph: each has parents ahead of it, far or near, and then they are shuffled.
func anyNodes(r *rand.Rand) []api.Node {
	var l []api.Node
	most, near := 1+r.Intn(4), 1+r.Intn(20)
	for range r.Intn(25) {
		n := api.Node{ID: anyID(r), Time: anyTime(r)}
		twice := slices.ContainsFunc(l, func(o api.Node) bool { return o.ID == n.ID })
		if twice && r.Intn(100) > 0 {
			continue
		}
		for range min(len(l), r.Intn(most+1)) {
			n.Parents = append(n.Parents, l[len(l)-1-r.Intn(min(len(l), near))].ID)
		}
		l = append(l, n)
	}
	if len(l) > 0 && r.Intn(12) == 0 {
		i := r.Intn(len(l))
		l[i].Parents = append(l[i].Parents, anyID(r))
	}
	r.Shuffle(len(l), func(i, k int) { l[i], l[k] = l[k], l[i] })
	return l
}

// anyOf is so many ids of nodes, seldom others.
func anyOf(r *rand.Rand, l []api.Node, n int) []api.ID {
	var ids []api.ID
	for range n {
		if len(l) == 0 || r.Intn(40) == 0 {
			ids = append(ids, anyID(r))
		} else {
			ids = append(ids, l[r.Intn(len(l))].ID)
		}
	}
	return ids
}

// answer is what a call answers, or that it answers ErrGraph.
type answer struct {
	ids []api.ID
	yes bool
	err api.Errno
}

// told holds an answer against what it should be: ErrGraph, if what was asked is not right.
func told(t *testing.T, name string, l []api.Node, got answer, right bool, want func() answer) {
	t.Helper()
	w := answer{err: api.ErrGraph}
	if right {
		w = want()
	}
	if !slices.Equal(got.ids, w.ids) || got.yes != w.yes || got.err != w.err {
		t.Fatalf("%s of %v: %v, not %v", name, l, got, w)
	}
}

// kind is what kind of an answer it is.
func kind(a answer) string {
	switch {
	case a.err != api.OK:
		return "refused"
	case len(a.ids) > 1:
		return "many"
	case len(a.ids) == 1 || a.yes:
		return "one"
	}
	return "none"
}

// TestGraphsByLot holds all calls but Closure against the document's words.
func TestGraphsByLot(t *testing.T) {
	r := rand.New(rand.NewSource(900))
	count := map[string]int{}
	for range 5000 {
		l := anyNodes(r)
		p := plainOf(l)
		got := answer{err: api.Tell(graph.Check(l))}
		told(t, "Check", l, got, p != nil, func() answer { return answer{} })
		count["Check "+kind(got)]++

		from, not := anyOf(r, l, r.Intn(5)), anyOf(r, l, r.Intn(3))
		ids, err := graph.Order(l, from, not)
		got = answer{ids, false, api.Tell(err)}
		told(t, "Order", l, got, p != nil && p.has(from...) && p.has(not...), func() answer { return answer{ids: p.order(from, not)} })
		count["Order "+kind(got)]++

		ids, err = graph.Reduce(l, from)
		got = answer{ids, false, api.Tell(err)}
		told(t, "Reduce", l, got, p != nil && p.has(from...), func() answer { return answer{ids: p.reduce(from)} })
		count["Reduce "+kind(got)]++

		for range 5 {
			pairByLot(t, r, l, p, count)
		}
	}
	often(t, count, 100, "Check refused", "Check none", "Order refused", "Order none", "Order one", "Order many", "Reduce refused", "Reduce none", "Reduce one", "Reduce many")
	often(t, count, 100, "Bases refused", "Bases none", "Bases one", "Bases many", "Reaches refused", "Reaches none", "Reaches one")
}

// pairByLot asks for two nodes.
func pairByLot(t *testing.T, r *rand.Rand, l []api.Node, p *plain, count map[string]int) {
	t.Helper()
	two := anyOf(r, l, 2)
	a, b := two[0], two[1]
	right := p != nil && p.has(a, b)
	ids, err := graph.Bases(l, a, b)
	got := answer{ids, false, api.Tell(err)}
	told(t, "Bases", l, got, right, func() answer { return answer{ids: p.bases(a, b)} })
	count["Bases "+kind(got)]++

	yes, err := graph.Reaches(l, a, b)
	got = answer{nil, yes, api.Tell(err)}
	told(t, "Reaches", l, got, right, func() answer { return answer{yes: p.reach[p.number(a)][p.number(b)]} })
	count["Reaches "+kind(got)]++
}

// often wants each of these things to have come so often at least.
func often(t *testing.T, count map[string]int, least int, names ...string) {
	t.Helper()
	for _, name := range names {
		if count[name] < least {
			t.Errorf("%s: %d times alone: %v", name, count[name], count)
		}
	}
}

// anyObjects is objects that name each other: each names some of those ahead of it, of whatever kind. Some are not right, some are there twice, some have no id, and some of those that are named are gone.
func anyObjects(r *rand.Rand) (l []api.Object, named []api.ID) {
	pool := []api.Object{blob("x"), tree()}
	for range r.Intn(12) {
		one := pool[r.Intn(len(pool))]
		two := pool[r.Intn(len(pool))]
		switch r.Intn(6) {
		case 0:
			pool = append(pool, blob(string(rune('a'+r.Intn(3)))))
		case 1:
			pool = append(pool, tree(one, two, one))
		case 2:
			pool = append(pool, tree(one), commit(two, one))
		case 3:
			pool = append(pool, tag(one))
		case 4:
			pool = append(pool, commit(one))
		case 5:
			bad := []api.Object{noTree, noCommit, noTag}[r.Intn(3)]
			pool = append(pool, bad, tree(two, bad, one))
		}
	}
	gone := []int{0, 0, 10, 30}[r.Intn(4)]
	for _, o := range pool {
		if r.Intn(100) >= gone {
			l = append(l, o)
		}
		if r.Intn(10) == 0 {
			l = append(l, o, api.Object{Kind: 7, Data: o.Data})
		}
	}
	r.Shuffle(len(l), func(i, k int) { l[i], l[k] = l[k], l[i] })
	return l, idsOf(pool...)
}

// plainClosure goes through objects as the document's words say it, call in call; it tells the id at which it ends early.
func plainClosure(l []api.Object, id api.ID, met map[api.ID]bool) (at api.ID, want api.Errno) {
	if met[id] {
		return api.ID{}, api.OK
	}
	for _, o := range l {
		if got, err := object.ID(o); err != nil || got != id {
			continue
		}
		links, err := object.Links(o)
		if err != nil {
			return id, api.Tell(err)
		}
		met[id] = true
		for _, below := range links {
			if at, want := plainClosure(l, below, met); want != api.OK {
				return at, want
			}
		}
		return api.ID{}, api.OK
	}
	return id, api.ErrMissing
}

// TestClosuresByLot holds Closure against the document's words.
func TestClosuresByLot(t *testing.T) {
	r := rand.New(rand.NewSource(901))
	count := map[api.Errno]int{}
	for range 3000 {
		l, named := anyObjects(r)
		var from []api.ID
		for range r.Intn(5) {
			from = append(from, named[len(named)-1-r.Intn(min(len(named), 6))])
		}
		met := map[api.ID]bool{}
		var at api.ID
		want := api.OK
		for _, id := range from {
			if want == api.OK {
				at, want = plainClosure(l, id, met)
			}
		}
		count[want]++
		switch want {
		case api.OK:
			var all []api.ID
			for id := range met {
				all = append(all, id)
			}
			got, err := graph.Closure(l, from)
			if err != nil || !slices.Equal(got, byBytes(all)) {
				t.Fatalf("%s of %v: %s, %v, not %s", brief(from), l, brief(got), err, brief(byBytes(all)))
			}
		case api.ErrMissing:
			missing(t, "by lot", l, from, at)
		default:
			spoilt(t, "by lot", l, from, want)
		}
	}
	for _, e := range []api.Errno{api.OK, api.ErrMissing, api.ErrTree, api.ErrCommit, api.ErrTag} {
		if count[e] < 100 {
			t.Errorf("%v: %d times alone", e, count[e])
		}
	}
}
