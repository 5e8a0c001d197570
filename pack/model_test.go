package pack_test

import (
	"math/rand"
	"testing"

	"gitlike/api"
	"gitlike/delta"
	"gitlike/pack"
)

// told is an entry by what it is made of: an object; or a delta, on the entry on (if that is not below 0) or on an object by its id.
type told struct {
	object api.Object
	on     int
	id     api.ID
	delta  []byte
}

// answer is what the document says of a pack.
type answer struct {
	objects []api.Object
	err     api.Errno
}

// plainly is 5.3 and 5.4, as the document's words say it. Each entry has its object and how many deltas it stands on; they are found again and again, until nothing changes.
func plainly(t *testing.T, l []told, bases []api.Object) answer {
	outside := map[api.ID]api.Object{}
	for _, o := range bases {
		outside[idOf(t, o)] = o
	}
	found := make([]*api.Object, len(l))
	ids := make([]api.ID, len(l))
	depth := make([]int, len(l))
	// find is an entry's base, and how many deltas that stands on.
	find := func(e told) (*api.Object, int) {
		if e.on >= 0 {
			return found[e.on], depth[e.on]
		}
		if o, ok := outside[e.id]; ok {
			return &o, 0
		}
		var best *api.Object
		least := 0
		for i, o := range found {
			if o != nil && ids[i] == e.id && (best == nil || depth[i] < least) {
				best, least = o, depth[i]
			}
		}
		return best, least
	}
	for changed := true; changed; {
		changed = false
		for i, e := range l {
			if e.delta == nil {
				changed = changed || found[i] == nil
				found[i], ids[i] = &e.object, idOf(t, e.object)
				continue
			}
			base, n := find(e)
			if base == nil || n == api.MaxChain || found[i] != nil && depth[i] <= n+1 {
				continue
			}
			if data, err := delta.Apply(base.Data, e.delta); err == nil {
				found[i], depth[i] = &api.Object{Kind: base.Kind, Data: data}, n+1
				ids[i] = idOf(t, *found[i])
				changed = true
			}
		}
	}
	var a answer
	different := map[api.ID]bool{}
	for i, o := range found {
		if o != nil {
			a.objects = append(a.objects, *o)
			different[ids[i]] = true
			continue
		}
		if base, _ := find(l[i]); base == nil {
			return answer{nil, api.ErrBase}
		}
		return answer{nil, api.ErrPack}
	}
	if len(different) < len(l) {
		return answer{nil, api.ErrPack}
	}
	return a
}

// build is a pack of such entries.
func build(l []told) []byte {
	var entries [][]byte
	var begins []int
	at := 12
	for _, e := range l {
		b := plain(e.object)
		if e.delta != nil {
			b = named(e.id, e.delta)
		}
		if e.delta != nil && e.on >= 0 {
			b = away(at-begins[e.on], e.delta)
		}
		entries = append(entries, b)
		begins = append(begins, at)
		at += len(b)
	}
	return packed(entries...)
}

// anyPack is entries that mostly stand on each other, in whatever order, and some of them on bases, on nothing, on themselves or wrongly.
func anyPack(t *testing.T, r *rand.Rand) (l []told, bases []api.Object) {
	size := 1 + r.Intn(40)
	wrong := []int{0, 0, 3, 20}[r.Intn(4)] // in a hundred
	chains := r.Intn(2) == 0               // whether entries stand on their neighbours
	var objects []api.Object
	for range size + 4 {
		objects = append(objects, api.Object{Kind: api.Blob, Data: noise(r, 2+r.Intn(9), 200)})
	}
	order := r.Perm(size)
	place := make([]int, size)
	for i, n := range order {
		place[n] = i
	}
	bases = append(bases, objects[size:]...)
	if wrong > 0 {
		bases = bases[:r.Intn(5)]
	}
	for i, n := range order {
		e := told{object: objects[n], on: -1}
		from := r.Intn(size + 4)
		if chains {
			from = max(0, n-1)
		} else if wrong == 0 && from < size {
			from = r.Intn(n + 1)
		}
		if r.Intn(100) < wrong {
			objects[n] = objects[r.Intn(size)]
			e.object = objects[n]
		}
		if from != n && r.Intn(20) > 0 || r.Intn(100) < wrong {
			e.delta = delta.Make(objects[from].Data, e.object.Data)
			e.id = idOf(t, objects[from])
			if from < size && place[from] < i && r.Intn(2) == 0 {
				e.on = place[from]
			}
			if r.Intn(200) < wrong {
				e.delta[0]++
			}
		}
		l = append(l, e)
	}
	return l, bases
}

// TestAnyPack holds Read against the document's words.
func TestAnyPack(t *testing.T) {
	r := rand.New(rand.NewSource(5))
	count := map[api.Errno]int{}
	for range 5000 {
		l, bases := anyPack(t, r)
		want := plainly(t, l, bases)
		got, err := pack.Read(build(l), bases)
		if api.Tell(err) != want.err || !same(got, want.objects) {
			t.Fatalf("%d objects, %v for %d, %v", len(got), err, len(want.objects), want.err)
		}
		count[want.err]++
	}
	if len(count) != 3 || min(count[api.OK], count[api.ErrPack], count[api.ErrBase]) < 300 {
		t.Errorf("%v", count)
	}
}
