package pack

import (
	"gitlike/api"
	"gitlike/delta"
	"gitlike/object"
	"gitlike/packentry"
)

// base is an object that a delta may stand on.
type base struct {
	api.Object
	begin int // where its entry begins, or elsewhere
	depth int // so many deltas stand one on another up to it
}

// elsewhere is where a base begins that is not in the pack.
const elsewhere = -1

// writer writes a pack.
type writer struct {
	out     []byte
	written []base // what is in out
	has     []base // what need not be in it
}

// newWriter begins a pack of so many entries.
func newWriter(count int, has []api.Object) *writer {
	w := &writer{out: appendNumber([]byte(packHead), uint32(count))}
	for _, o := range has {
		w.has = append(w.has, base{Object: o, begin: elsewhere})
	}
	return w
}

// canWrite tells whether a pack can be made of objects.
func canWrite(l []api.Object) error {
	if len(l) > api.MaxObjects {
		return api.ErrPack
	}
	seen := map[api.ID]int{}
	for i, o := range l {
		id, err := object.ID(o)
		if err != nil {
			return err
		}
		seen[id] = i
	}
	if len(seen) < len(l) {
		return api.ErrPack
	}
	return nil
}

// put writes an object's entry: of the object itself, or, where that is shorter, of a delta on what is most like it, in this pack or among what need not be in it.
//
// Why 90 bytes are enough for an object of at most 20000 bytes that differs from another one of its length in one byte: the delta has 6 bytes of sizes, at most three copies of 5 bytes (up to that byte, from it on, and behind what that one takes), and bytes of its own where a copy does not pay: less than 40. Its head has at most 22 bytes, and its stream 11 more, where it is stored.
func (w *writer) put(o api.Object) {
	at := len(w.out)
	best, depth := packentry.Make(packentry.Head{Kind: o.Kind}, o.Data), 0
	for _, l := range [][]base{w.has, w.written} {
		on := nearest(l, o, at)
		if on == nil {
			continue
		}
		if e := packentry.Make(on.deltaHead(at), delta.Make(on.Data, o.Data)); len(e) < len(best) {
			best, depth = e, on.depth+1
		}
	}
	w.out = append(w.out, best...)
	w.written = append(w.written, base{o, at, depth})
}

// nearest finds among bases that may bear an object's delta the one whose length is nearest to the object's, since bytes that differ little mostly differ little in their length, and looking at more would take much time; of those that are as near the first one.
func nearest(l []base, o api.Object, at int) *base {
	var found *base
	for i := range l {
		on := &l[i]
		if on.mayBear(o, at) && (found == nil || on.apart(o) < found.apart(o)) {
			found = on
		}
	}
	return found
}

// mayBear tells whether a delta of an object may stand on a base, if its entry begins at a place.
func (b *base) mayBear(o api.Object, at int) bool {
	if b.Kind != o.Kind || len(b.Data) > api.MaxBlob || b.depth == api.MaxChain {
		return false
	}
	return b.begin == elsewhere || at-b.begin <= packentry.MostDistance
}

// apart is by how many bytes a base's length and an object's differ.
func (b *base) apart(o api.Object) int {
	d := len(b.Data) - len(o.Data)
	return max(d, -d)
}

// deltaHead is the head of a delta on a base, if its entry begins at a place.
func (b *base) deltaHead(at int) packentry.Head {
	if b.begin != elsewhere {
		return packentry.Head{Kind: packentry.ByDistance, Distance: at - b.begin}
	}
	id, _ := object.ID(b.Object) // it has one: mayBear has looked at it
	return packentry.Head{Kind: packentry.ByID, BaseID: id}
}
