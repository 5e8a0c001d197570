package store_test

import (
	"bytes"
	"math/rand"
	"slices"
	"testing"

	"gitlike/api"
	"gitlike/deflate"
)

// TestPut: 6.1 and 6.3, what it answers, and what lies on the disk.
func TestPut(t *testing.T) {
	d := roomy()
	s := open(t, d)
	has(t, "at first", s)
	put(t, s, "a")
	bothHave(t, "one", s, d, "a")
	put(t, s, "", "b", long)
	bothHave(t, "four", s, d, "a", "", "b", long)
	want := []string{looseName("a"), looseName(""), looseName("b"), looseName(long)}
	slices.Sort(want)
	if l := d.List(); !slices.Equal(l, want) {
		t.Errorf("files: %q", l)
	}
	for _, x := range []string{"a", "", "b", long} {
		if !bytes.Equal(bytesOf(t, d, looseName(x)), deflate.Deflate(encoded(x))) {
			t.Errorf("the file of %.20q", x)
		}
	}
	fails(t, "none", s, "c", api.ErrMissing)
	if s.Has(idOf("c")) || s.Has(api.ID{}) {
		t.Error("Has tells what is not there")
	}
}

// TestPutRefused: 6.3, Encode's errors.
func TestPutRefused(t *testing.T) {
	d := roomy()
	s := open(t, d)
	put(t, s, "a")
	for _, c := range []struct {
		o    api.Object
		want api.Errno
	}{
		{api.Object{}, api.ErrKind},
		{api.Object{Kind: 5}, api.ErrKind},
		{api.Object{Kind: -1, Data: []byte("a")}, api.ErrKind},
		{api.Object{Kind: 9, Data: make([]byte, api.MaxBlob+1)}, api.ErrKind},
		{api.Object{Kind: api.Blob, Data: make([]byte, api.MaxBlob+1)}, api.ErrLong},
	} {
		if id, err := s.Put(c.o); id != (api.ID{}) || api.Tell(err) != c.want {
			t.Errorf("%d, %d bytes: %v, %v", c.o.Kind, len(c.o.Data), id, err)
		}
	}
	bothHave(t, "refused", s, d, "a")
}

// TestPutAgain: 6.3, what is there already, loose or in a pack, changes nothing, and needs no room.
func TestPutAgain(t *testing.T) {
	d := roomy()
	s := open(t, d)
	put(t, s, "a")
	addPack(t, s, packOf(t, "b", long), "b", long)
	before := picture(t, d)
	full := api.NewDisk(0)
	for _, name := range d.List() {
		full = grown(t, full, name, bytesOf(t, d, name))
	}
	for i, d := range []*api.Disk{d, d.Copy(), full} {
		if i > 0 {
			s = open(t, d)
		}
		for range 2 {
			put(t, s, "a", "b", long)
			if picture(t, d) != before {
				t.Error("the disk is changed")
			}
		}
		has(t, "again", s, "a", "b", long)
	}
	if _, err := open(t, full).Put(blob("c")); api.Tell(err) != api.ErrRoom {
		t.Errorf("there is room: %v", err)
	}
}

// TestPutAgainAsksLittle: when all is safe, what is there already is read, and nothing more.
func TestPutAgainAsksLittle(t *testing.T) {
	d := roomy()
	mixed(t, d)
	s := open(t, d)
	put(t, s, "x")
	for _, text := range []string{"x", "a", "d"} {
		d.Fail(1, forever)
		put(t, s, text)
		d.Fail(0, 0)
	}
}

// grown is a disk with one file more, and no room beside.
func grown(t *testing.T, d *api.Disk, name string, b []byte) *api.Disk {
	t.Helper()
	used := 0
	for _, x := range d.List() {
		used += len(bytesOf(t, d, x))
	}
	c := api.NewDisk(used + len(b))
	for _, x := range d.List() {
		write(t, c, x, bytesOf(t, d, x))
	}
	write(t, c, name, b)
	return c
}

// TestAllIsSorted: 6.3.
func TestAllIsSorted(t *testing.T) {
	r := rand.New(rand.NewSource(1))
	d := roomy()
	s := open(t, d)
	var texts []string
	for range 300 {
		texts = append(texts, string(noise(r, r.Intn(40))))
	}
	put(t, s, texts[:150]...)
	rest := uniqueOf(texts[150:])
	addPack(t, s, packOf(t, rest...), rest...)
	bothHave(t, "many", s, d, texts...)
}

// uniqueOf is texts, each once.
func uniqueOf(texts []string) []string {
	l := slices.Clone(texts)
	slices.Sort(l)
	return slices.Compact(l)
}

func noise(r *rand.Rand, n int) []byte {
	b := make([]byte, n)
	r.Read(b)
	return b
}

// TestSpoiltLoose: 6.3, a bit that turned behind Open, each of them; another store finds nothing there; Put lays it anew.
func TestSpoiltLoose(t *testing.T) {
	d := roomy()
	s := open(t, d)
	put(t, s, "abc", "b")
	bits := uint(8 * len(bytesOf(t, d, looseName("abc"))))
	for bit := range bits {
		d := d.Copy()
		s := open(t, d)
		d.Flip(looseName("abc"), bit)
		if o, err := s.Get(idOf("abc")); err == nil && string(o.Data) != "abc" || err != nil && api.Tell(err) != api.ErrCorrupt {
			t.Errorf("bit %d: %q, %v", bit, o.Data, err)
		}
		gets(t, "the other one", s, "b")
		if bit%9 == 0 {
			put(t, s, "abc")
			bothHave(t, "put again", s, d, "abc", "b")
		}
	}
	d.Flip(looseName("abc"), 99)
	fails(t, "a bit turned", s, "abc", api.ErrCorrupt)
	if !s.Has(idOf("abc")) || len(s.All()) != 2 {
		t.Error("what was there is not told any more")
	}
	has(t, "opened again", open(t, d), "b")
	d.Flip(looseName("abc"), 99)
	has(t, "turned back", s, "abc", "b")
	for _, b := range [][]byte{nil, squeezed(encoded("b")), squeezed([]byte("abc")), append(squeezed(encoded("abc")), 0)} {
		rewrite(t, d, looseName("abc"), b)
		fails(t, "another file", s, "abc", api.ErrCorrupt)
	}
	d.Remove(looseName("abc"))
	fails(t, "no file", s, "abc", api.ErrCorrupt)
	put(t, s, "abc")
	bothHave(t, "put again", s, d, "abc", "b")
}

// TestSpoiltPack: 6.3, likewise, of a pack with deltas.
func TestSpoiltPack(t *testing.T) {
	texts := []string{long, long + "more", "x" + long, "too"}
	b := packOf(t, texts...)
	first := roomy()
	writePack(t, first, b)
	bad := 0
	for bit := range uint(8 * len(b)) {
		d := first.Copy()
		s := open(t, d)
		d.Flip(stemOf(b)+".pack", bit)
		for _, x := range texts {
			o, err := s.Get(idOf(x))
			if err == nil && string(o.Data) != x || err != nil && api.Tell(err) != api.ErrCorrupt {
				t.Fatalf("bit %d: %d bytes, %v", bit, len(o.Data), err)
			}
			if err != nil {
				bad++
				isOf(t, "a bit turned", err, idOf(x), api.ErrCorrupt)
			}
		}
		if bit%50 == 0 {
			has(t, "opened again", open(t, d))
			addPack(t, s, b, texts...)
			bothHave(t, "added again", s, d, texts...)
		}
	}
	if bad < 8*(len(b)-40) {
		t.Errorf("only %d are spoilt", bad)
	}
	d := first.Copy()
	s := open(t, d)
	d.Remove(stemOf(b) + ".pack")
	for _, x := range texts {
		fails(t, "no file", s, x, api.ErrCorrupt)
	}
	put(t, s, texts...)
	bothHave(t, "put again", s, d, texts...)
}

// TestOneOfTwoSpoilt: 6.3, what is there twice is there, as long as one of both is right.
func TestOneOfTwoSpoilt(t *testing.T) {
	one, two := packOf(t, long, long+"more"), packOf(t, "x", long+"more", long+"and more", long)
	files := []string{looseName(long), stemOf(one) + ".pack", stemOf(two) + ".pack"}
	for bit := uint(0); bit < 8*200; bit += 7 {
		for left := range files {
			d := roomy()
			write(t, d, files[0], squeezed(encoded(long)))
			writePack(t, d, one)
			writePack(t, d, two)
			s := open(t, d)
			for i, name := range files {
				if i != left {
					// The bits of the heads do not spoil what stands behind them.
					d.Flip(name, 8*20+bit)
				}
			}
			gets(t, "one is right", s, long)
			repack(t, s, long)
			bothHave(t, "repacked", s, d, long)
		}
	}
}

// TestGetFails: an operation that fails is not a file that is spoilt.
func TestGetFails(t *testing.T) {
	d := roomy()
	s := open(t, d)
	put(t, s, "a")
	addPack(t, s, packOf(t, long, long+"more", "x"+long, "a"), long, long+"more", "x"+long, "a")
	for _, x := range []string{"a", long, long + "more", "x" + long} {
		for after := 0; ; after++ {
			d.Fail(after, 1)
			o, err := s.Get(idOf(x))
			d.Fail(0, 0)
			if err == nil {
				if after == 0 || string(o.Data) != x {
					t.Errorf("behind %d operations: %q", after, o.Data)
				}
				break
			}
			if api.Tell(err) != api.ErrDisk || o.Kind != 0 || len(o.Data) > 0 {
				t.Errorf("behind %d operations: %v, %v", after, o, err)
			}
		}
		gets(t, "behind it", s, x)
	}
}

// TestSameFailure: which of two packs is read first does not hang on luck: so the same failure has the same answer.
func TestSameFailure(t *testing.T) {
	d := roomy()
	deep, texts := chain(t, false, 5)
	writePack(t, d, deep)
	writePack(t, d, packOf(t, texts[5]))
	var first error
	for i := range 40 {
		s := open(t, d)
		d.Fail(1, 1)
		_, err := s.Get(idOf(texts[5]))
		d.Fail(0, 0)
		if i == 0 {
			first = err
		}
		if api.Tell(err) != api.Tell(first) {
			t.Fatalf("%v, and %v", first, err)
		}
	}
}

// TestChains: 6.3, deltas by distances and by ids, as many one on another as may be.
func TestChains(t *testing.T) {
	for _, byID := range []bool{false, true} {
		b, texts := chain(t, byID, api.MaxChain)
		d := roomy()
		writePack(t, d, b)
		s := open(t, d)
		bothHave(t, "a chain", s, d, texts...)
		s = open(t, roomy())
		addPack(t, s, b, texts...)
		has(t, "added", s, texts...)
	}
}

// TestLoopEnds: a pack that was written over by one whose deltas stand on each other, or on themselves.
func TestLoopEnds(t *testing.T) {
	b, texts := chain(t, true, 2)
	ids := idsOf(texts...)
	for _, c := range [][2]api.ID{{ids[2], ids[0]}, {ids[2], ids[1]}, {ids[1], ids[0]}} {
		d := roomy()
		writePack(t, d, b)
		s := open(t, d)
		rewrite(t, d, stemOf(b)+".pack", bytes.ReplaceAll(b, c[0][:], c[1][:]))
		for _, x := range texts {
			if o, err := s.Get(idOf(x)); err == nil && string(o.Data) != x || err != nil && api.Tell(err) != api.ErrCorrupt {
				t.Errorf("%q, %v", o.Data, err)
			}
		}
		fails(t, "a loop", s, texts[0], api.ErrCorrupt)
	}
}
