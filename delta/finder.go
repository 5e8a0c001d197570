package delta

// A finder finds the longest beginning of bytes that stands in a base, wherever that is, in a time that hangs on how long it is, not on the base. It is the base's suffix automaton: a state stands for all texts that end at just the same places of the base, and whatever way leads from the first state to it spells one of them. So it has at most two states for each byte of the base, however often parts of it come again.
type finder struct {
	states []state
	edges  []edge
	byKey  map[uint32]int32 // which edge leads from a state by a byte
	last   int32            // the state of the whole base, so far
}

// A state's texts are the endings of the longest of them, down to some length: shorter ones end at more places.
type state struct {
	longest int32
	shorter int32 // the state of the longest of the shorter endings
	end     int32 // where its texts end first
	edges   int32 // the first of its edges
}

// An edge leads to a state that has a state's texts with one byte more. A state's edges are a list.
type edge struct {
	to, next int32
	by       byte
}

const (
	noState = -1
	noEdge  = 0 // which a map answers for what is not there: so no edge has this number
)

// newFinder makes a finder for a base.
func newFinder(base []byte) *finder {
	f := &finder{
		states: make([]state, 1, 2*len(base)+1),
		edges:  make([]edge, 1, 3*len(base)+1),
		byKey:  make(map[uint32]int32, 2*len(base)),
	}
	f.states[0].shorter = noState
	for _, b := range base {
		f.add(b)
	}
	return f
}

// find tells where in the base the longest beginning of b stands, and how long it is.
func (f *finder) find(b []byte) (from, length int) {
	at := int32(0)
	for _, by := range b {
		e := f.edge(at, by)
		if e == noEdge {
			break
		}
		at = f.edges[e].to
		length++
	}
	return int(f.states[at].end) - length, length
}

func key(at int32, by byte) uint32 { return uint32(at)<<8 | uint32(by) }

// edge looks for a state's edge by a byte.
func (f *finder) edge(at int32, by byte) int32 { return f.byKey[key(at, by)] }

// join gives a state an edge by a byte by which it has none.
func (f *finder) join(at int32, by byte, to int32) {
	e := int32(len(f.edges))
	f.edges = append(f.edges, edge{to: to, next: f.states[at].edges, by: by})
	f.states[at].edges = e
	f.byKey[key(at, by)] = e
}

// add has the base go on by a byte.
func (f *finder) add(by byte) {
	at, whole := f.last, int32(len(f.states))
	length := f.states[at].longest + 1
	f.states = append(f.states, state{longest: length, end: length})
	f.last = whole
	for at != noState && f.edge(at, by) == noEdge {
		f.join(at, by, whole)
		at = f.states[at].shorter
	}
	if at != noState {
		f.states[whole].shorter = f.split(at, by)
	}
}

// split answers the state whose longest text is a state's longest one with one byte more. That text and shorter ones now end at one more place than longer ones do: where they were in one state, they get another one.
func (f *finder) split(at int32, by byte) int32 {
	to := f.edges[f.edge(at, by)].to
	length := f.states[at].longest + 1
	if f.states[to].longest == length {
		return to
	}
	part := int32(len(f.states))
	f.states = append(f.states, state{longest: length, shorter: f.states[to].shorter, end: f.states[to].end})
	f.states[to].shorter = part
	for e := f.states[to].edges; e != noEdge; e = f.edges[e].next {
		f.join(part, f.edges[e].by, f.edges[e].to)
	}
	f.lead(at, by, to, part)
	return part
}

// lead has the edges by a byte that lead to a state, from a state and from those of its shorter endings, lead to another one.
func (f *finder) lead(at int32, by byte, from, to int32) {
	for at != noState {
		e := f.edge(at, by)
		if f.edges[e].to != from {
			return
		}
		f.edges[e].to = to
		at = f.states[at].shorter
	}
}
