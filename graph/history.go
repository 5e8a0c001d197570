package graph

import (
	"container/heap"
	"slices"

	"gitlike/api"
	"gitlike/idorder"
	"gitlike/idwalk"
)

// history is commits that are a graph.
type history struct {
	nodes []api.Node
	place map[api.ID]int // by their ids: where in nodes they stand
}

// open reads commits of which something is asked: ErrGraph, if they are no graph, or if an id that is asked for is none of theirs.
func open(l []api.Node, asked ...api.ID) (*history, error) {
	if len(l) > api.MaxEntries {
		return nil, api.ErrGraph
	}
	h := &history{l, map[api.ID]int{}}
	ids := slices.Clone(asked)
	for i, n := range l {
		h.place[n.ID] = i
		ids = append(ids, n.ID)
	}
	if len(h.place) < len(l) {
		return nil, api.ErrGraph
	}
	// A walk from everywhere meets each id that is not there, be it a parent's or one that is asked for.
	all, err := idwalk.Through(h.parents, ids...)
	if err != nil {
		return nil, err
	}
	// The nodes of a ring wait for each other, and those below it for them: none of these gets into the order.
	if len(h.inOrder(all)) < len(l) {
		return nil, api.ErrGraph
	}
	return h, nil
}

// node is the commit of an id that is there.
func (h *history) node(id api.ID) api.Node { return h.nodes[h.place[id]] }

// parents is what a commit names: ErrGraph, if there is none of that id.
func (h *history) parents(id api.ID) ([]api.ID, error) {
	if _, there := h.place[id]; !there {
		return nil, api.ErrGraph
	}
	return h.node(id).Parents, nil
}

// among is the nodes of some, in the order in which they were handed in.
func (h *history) among(some set) []api.Node {
	var l []api.Node
	for _, n := range h.nodes {
		if some.has(n.ID) {
			l = append(l, n)
		}
	}
	return l
}

// reached is what these reach. They are there, as open has seen, and so are all parents: there is no error.
func (h *history) reached(from ...api.ID) set {
	met, _ := idwalk.Through(h.parents, from...)
	return met
}

// tops is, of some, those that no other one of them reaches, by their ids. Another one reaches what one of its parents reaches; a node's own parents never reach it.
func (h *history) tops(some set) []api.ID {
	var parents []api.ID
	for _, n := range h.among(some) {
		parents = append(parents, n.Parents...)
	}
	return idorder.Sorted(some.less(h.reached(parents...)))
}

// inOrder is some in the order of 9.2: a node may come when all of its children among them have come.
func (h *history) inOrder(some set) []api.ID {
	nodes := h.among(some)
	waits := childrenAmong(nodes)
	q := &queue{}
	for _, n := range nodes {
		if waits[n.ID] == 0 {
			heap.Push(q, n)
		}
	}
	var l []api.ID
	for q.Len() > 0 {
		n := heap.Pop(q).(api.Node)
		l = append(l, n.ID)
		for _, p := range n.Parents {
			waits[p]--
			if waits[p] == 0 && some.has(p) {
				heap.Push(q, h.node(p))
			}
		}
	}
	return l
}

// childrenAmong counts, by their ids, how many of these nodes have one as a parent: a node that names it twice counts twice.
func childrenAmong(nodes []api.Node) map[api.ID]int {
	count := map[api.ID]int{}
	for _, n := range nodes {
		for _, p := range n.Parents {
			count[p]++
		}
	}
	return count
}
