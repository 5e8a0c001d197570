package pack_test

import (
	"bytes"
	"encoding/binary"
	"math/rand"
	"slices"
	"testing"

	"gitlike/api"
	"gitlike/pack"
)

// parts is an index in parts, so that each can be made wrong.
type parts struct {
	head    []byte
	counts  [256]uint32
	ids     []api.ID
	crcs    []uint32
	offsets []uint32
	sum     api.ID
}

// bytes puts them together, with the right SHA-1 behind them.
func (p parts) bytes() []byte {
	b := bytes.Clone(p.head)
	for _, n := range p.counts {
		b = binary.BigEndian.AppendUint32(b, n)
	}
	for _, id := range p.ids {
		b = append(b, id[:]...)
	}
	for _, n := range append(slices.Clone(p.crcs), p.offsets...) {
		b = binary.BigEndian.AppendUint32(b, n)
	}
	return summed(append(b, p.sum[:]...))
}

// inParts is the index of places, which are by their ids.
func inParts(l []api.Place, sum api.ID) parts {
	p := parts{head: []byte{0xff, 0x74, 0x4f, 0x63, 0, 0, 0, 2}, sum: sum}
	for _, x := range l {
		for n := int(x.ID[0]); n < 256; n++ {
			p.counts[n]++
		}
		p.ids = append(p.ids, x.ID)
		p.crcs = append(p.crcs, x.CRC)
		p.offsets = append(p.offsets, uint32(x.Offset))
	}
	return p
}

// some is places by their ids, with first and last bytes that are 0 and 255 too.
func some() []api.Place {
	return []api.Place{
		{ID: api.ID{}, Offset: 12, CRC: 5},
		{ID: api.ID{0, 1}, Offset: 1<<31 - 1, CRC: 0},
		{ID: api.ID{7}, Offset: 0, CRC: 1<<32 - 1},
		{ID: api.ID{7, 19: 1}, Offset: 12, CRC: 5},
		{ID: api.ID{255, 255}, Offset: 1 << 30, CRC: 0x01020304},
	}
}

// noIdx wants ReadIdx and Find to answer ErrIdx, and nothing beside it.
func noIdx(t *testing.T, name string, b []byte) {
	t.Helper()
	l, sum, err := pack.ReadIdx(b)
	if api.Tell(err) != api.ErrIdx || len(l) != 0 || sum != (api.ID{}) {
		t.Errorf("%s: ReadIdx: %v, %v, %v", name, l, sum, err)
	}
	for _, id := range []api.ID{{7}, {9}} {
		if n, err := pack.Find(b, id); api.Tell(err) != api.ErrIdx || n != 0 {
			t.Errorf("%s: Find: %d, %v", name, n, err)
		}
	}
}

// indexes wants both to be the index of the other one: places in whatever order, and these bytes.
func indexes(t *testing.T, name string, l []api.Place, sum api.ID, want []byte) {
	t.Helper()
	b, err := pack.WriteIdx(l, sum)
	if err != nil || !bytes.Equal(b, want) {
		t.Errorf("%s: WriteIdx: % x, %v", name, b, err)
	}
	sorted := slices.SortedFunc(slices.Values(l), func(x, y api.Place) int { return bytes.Compare(x.ID[:], y.ID[:]) })
	got, s, err := pack.ReadIdx(want)
	if err != nil || s != sum || !slices.Equal(got, sorted) {
		t.Errorf("%s: ReadIdx: %v, %v, %v", name, got, s, err)
	}
	for _, p := range l {
		if n, err := pack.Find(want, p.ID); n != p.Offset || err != nil {
			t.Errorf("%s: Find: %d, %v for %d", name, n, err, p.Offset)
		}
		for _, bit := range []byte{1, 2, 128} {
			p.ID[18] ^= bit
			if n, err := pack.Find(want, p.ID); n != 0 || api.Tell(err) != api.ErrMissing {
				t.Errorf("%s: Find of none: %d, %v", name, n, err)
			}
			p.ID[18] ^= bit
		}
	}
}

// TestIdx: 5.7, indexes to the byte.
func TestIdx(t *testing.T) {
	sum := api.ID{9, 19: 8}
	indexes(t, "nothing", nil, sum, inParts(nil, sum).bytes())
	indexes(t, "nothing, of nought", []api.Place{}, api.ID{}, inParts(nil, api.ID{}).bytes())
	want := inParts(some(), sum).bytes()
	indexes(t, "some", some(), sum, want)
	indexes(t, "one", some()[2:3], sum, inParts(some()[2:3], sum).bytes())
	r := rand.New(rand.NewSource(1))
	for range 20 {
		l := some()
		r.Shuffle(len(l), func(i, j int) { l[i], l[j] = l[j], l[i] })
		indexes(t, "in any order", l, sum, want)
	}
	if n, err := pack.Find(inParts(nil, sum).bytes(), api.ID{}); n != 0 || api.Tell(err) != api.ErrMissing {
		t.Errorf("Find in nothing: %d, %v", n, err)
	}
}

// TestNoIdx: 5.7, what WriteIdx refuses.
func TestNoIdx(t *testing.T) {
	for name, l := range map[string][]api.Place{
		"an offset below 0":                   {{Offset: -1}},
		"an offset far below 0":               {{Offset: -1 << 63}},
		"an offset of 2 to the power of 31":   {{Offset: 1 << 31}},
		"an offset of 2 to the power of 32":   {{Offset: 1 << 32}},
		"an offset of 2 to the power of 62":   {{Offset: 1 << 62}},
		"an offset behind others":             append(some(), api.Place{ID: api.ID{3}, Offset: 1 << 31}),
		"an id twice":                         {{ID: api.ID{1}, Offset: 12}, {ID: api.ID{1}, Offset: 40}},
		"an id twice, all the same":           {{ID: api.ID{1}}, {ID: api.ID{1}}},
		"an id twice, with others between":    append(some(), some()[0]),
		"an id twice, the last one":           append(some(), some()[4]),
		"an id three times":                   append(some(), some()[1], some()[1]),
		"an id twice and an offset that's no": {{ID: api.ID{1}}, {ID: api.ID{1}, Offset: -1}},
	} {
		if b, err := pack.WriteIdx(l, api.ID{}); api.Tell(err) != api.ErrIdx || len(b) != 0 {
			t.Errorf("%s: %d bytes, %v", name, len(b), err)
		}
	}
}

// TestManyPlaces: 5.7, MaxObjects and one more.
func TestManyPlaces(t *testing.T) {
	var l []api.Place
	for i := range api.MaxObjects + 1 {
		l = append(l, api.Place{ID: api.ID{byte(i >> 8), byte(i), 1}, Offset: 7 * i, CRC: uint32(i)})
	}
	most := inParts(l[:api.MaxObjects], api.ID{1}).bytes()
	got, _, err := pack.ReadIdx(most)
	if err != nil || !slices.Equal(got, l[:api.MaxObjects]) {
		t.Errorf("ReadIdx: %d places, %v", len(got), err)
	}
	if b, err := pack.WriteIdx(l[:api.MaxObjects], api.ID{1}); err != nil || !bytes.Equal(b, most) {
		t.Errorf("WriteIdx: %d bytes, %v", len(b), err)
	}
	if n, err := pack.Find(most, l[4999].ID); err != nil || n != 7*4999 {
		t.Errorf("Find: %d, %v", n, err)
	}
	if b, err := pack.WriteIdx(l, api.ID{1}); api.Tell(err) != api.ErrIdx || len(b) != 0 {
		t.Errorf("one more: %d bytes, %v", len(b), err)
	}
	noIdx(t, "one more", inParts(l, api.ID{1}).bytes())
}

// TestWrongParts: 5.7, an index of which one part is not right, though its SHA-1 is.
func TestWrongParts(t *testing.T) {
	for name, spoil := range map[string]func(p *parts){
		"another name":                      func(p *parts) { p.head[0] = 0xfe },
		"another number":                    func(p *parts) { p.head[7] = 1 },
		"counts that do not rise":           func(p *parts) { p.counts[3] = 5 },
		"counts that rise too late":         func(p *parts) { p.counts[7] = 2 },
		"counts that rise too early":        func(p *parts) { p.counts[6] = 3 },
		"counts of one too many":            func(p *parts) { p.counts[255] = 6 },
		"counts of one too few":             func(p *parts) { p.counts[255] = 4 },
		"counts of very many":               func(p *parts) { p.counts[255] = 1<<32 - 1 },
		"no counts":                         func(p *parts) { p.counts = [256]uint32{} },
		"ids that do not rise":              func(p *parts) { p.ids[2], p.ids[3] = p.ids[3], p.ids[2] },
		"an id twice":                       func(p *parts) { p.ids[3] = p.ids[2] },
		"one id too many":                   func(p *parts) { p.ids = append(p.ids, api.ID{255, 255, 1}) },
		"one CRC too many":                  func(p *parts) { p.crcs = append(p.crcs, 1) },
		"one offset too few":                func(p *parts) { p.offsets = p.offsets[:4] },
		"an offset of 2 to the power of 31": func(p *parts) { p.offsets[1] = 1 << 31 },
		"an offset of all bits":             func(p *parts) { p.offsets[4] = 1<<32 - 1 },
		"a place too many": func(p *parts) {
			p.ids, p.crcs, p.offsets = append(p.ids, api.ID{255, 255, 1}), append(p.crcs, 1), append(p.offsets, 1)
		},
		"a place too few":                    func(p *parts) { p.ids, p.crcs, p.offsets = p.ids[:4], p.crcs[:4], p.offsets[:4] },
		"a place too few, but for its count": func(p *parts) { *p = inParts(some()[:4], api.ID{}); p.counts[255] = 5 },
	} {
		p := inParts(some(), api.ID{3})
		spoil(&p)
		noIdx(t, name, p.bytes())
	}
	p := inParts(some(), api.ID{3})
	p.offsets[1], p.crcs[1], p.sum = 1<<31-2, 8, api.ID{4}
	if l, sum, err := pack.ReadIdx(p.bytes()); err != nil || sum != (api.ID{4}) || l[1].Offset != 1<<31-2 || l[1].CRC != 8 {
		t.Errorf("%v, %v, %v", l, sum, err)
	}
}

// TestIdxBytes: 5.7, a bit turned about, bytes cut off or more of them, and a SHA-1 that is not right.
func TestIdxBytes(t *testing.T) {
	b := inParts(some(), api.ID{3}).bytes()
	for bit := range 8 * len(b) {
		b[bit/8] ^= 1 << (bit % 8)
		if l, sum, err := pack.ReadIdx(b); api.Tell(err) != api.ErrIdx || len(l) != 0 || sum != (api.ID{}) {
			t.Errorf("bit %d: %v, %v, %v", bit, l, sum, err)
		}
		b[bit/8] ^= 1 << (bit % 8)
	}
	for n := range b {
		noIdx(t, "cut off", b[:n])
		if n != len(b)-20 {
			noIdx(t, "cut off, with a sum", summed(b[:n]))
		}
	}
	noIdx(t, "more", append(bytes.Clone(b), 0))
	noIdx(t, "a sum more", summed(b))
	noIdx(t, "nothing", nil)
	noIdx(t, "another sum", join(b[:len(b)-20], make([]byte, 20)))
}

// TestIdxOfAPack: an index of a pack's places leads to its objects.
func TestIdxOfAPack(t *testing.T) {
	l := different(600)
	b, err := pack.Write(l)
	if err != nil {
		t.Fatal(err)
	}
	places, err := pack.Places(b, nil)
	if err != nil {
		t.Fatal(err)
	}
	idx, err := pack.WriteIdx(places, api.ID(b[len(b)-20:]))
	if err != nil {
		t.Fatal(err)
	}
	for _, o := range l[590:] {
		at, err := pack.Find(idx, idOf(t, o))
		if err != nil {
			t.Fatal(err)
		}
		if got, err := pack.At(b, at, nil); err != nil || !same([]api.Object{got}, []api.Object{o}) {
			t.Errorf("%v, %v", got, err)
		}
	}
}
