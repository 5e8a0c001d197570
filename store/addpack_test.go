package store_test

import (
	"bytes"
	"slices"
	"testing"

	"gitlike/api"
	"gitlike/pack"
	"gitlike/store"
)

// TestAddPack: 6.4, packs that need no bases.
func TestAddPack(t *testing.T) {
	d := roomy()
	s := open(t, d)
	put(t, s, "b")
	addPack(t, s, packOf(t, "c", "a", long+"more", long), "c", "a", long+"more", long)
	bothHave(t, "one pack", s, d, "b", "c", "a", long+"more", long)
	addPack(t, s, packOf(t, "a", "b", "d"), "a", "b", "d")
	bothHave(t, "two packs", s, d, "b", "c", "a", long+"more", long, "d")
	before := picture(t, d)
	addPack(t, s, packOf(t))
	bothHave(t, "one of nothing", s, d, "b", "c", "a", long+"more", long, "d")
	if picture(t, d) != before {
		t.Error("a pack of nothing is kept")
	}
}

// TestAddPackKinds: objects of all kinds, whatever their bytes are.
func TestAddPackKinds(t *testing.T) {
	var l []api.Object
	for kind := api.Commit; kind <= api.Tag; kind++ {
		l = append(l, api.Object{Kind: kind, Data: []byte("x")}, api.Object{Kind: kind})
	}
	b, err := pack.Write(l)
	if err != nil {
		t.Fatal(err)
	}
	d := roomy()
	s := open(t, d)
	ids, err := s.AddPack(b)
	if err != nil || len(ids) != len(l) {
		t.Fatalf("%v, %v", ids, err)
	}
	for range 2 {
		for i, id := range ids {
			if o, err := s.Get(id); err != nil || o.Kind != l[i].Kind || !bytes.Equal(o.Data, l[i].Data) {
				t.Errorf("%d: %v, %v", i, o, err)
			}
		}
		s = open(t, d)
	}
}

// TestAddPackAgain: 6.4, a pack that is there already, in its own file or otherwise.
func TestAddPackAgain(t *testing.T) {
	b, thin := packOf(t, long, "a"), thinOf(t, []string{long}, long+"more")
	d := roomy()
	s := open(t, d)
	for range 3 {
		addPack(t, s, b, long, "a")
		addPack(t, s, thin, long+"more")
		bothHave(t, "again", s, d, long, "a", long+"more")
	}
	before := picture(t, d)
	s = open(t, d)
	addPack(t, s, thin, long+"more")
	addPack(t, s, b, long, "a")
	if picture(t, d) != before {
		t.Error("the disk is changed by what is there already")
	}
	put(t, s, "x")
	bothHave(t, "and one more", s, d, long, "a", long+"more", "x")
}

// TestAddThin: 6.4, deltas on objects of the store, wherever they lie.
func TestAddThin(t *testing.T) {
	for name, lay := range map[string]func(d *api.Disk){
		"loose":     func(d *api.Disk) { put(t, open(t, d), long, "x") },
		"in a pack": func(d *api.Disk) { addPack(t, open(t, d), packOf(t, "x", long), "x", long) },
		"a delta":   func(d *api.Disk) { addPack(t, open(t, d), packOf(t, long[1:], long, "x"), long[1:], long, "x") },
		"repacked":  func(d *api.Disk) { s := open(t, d); put(t, s, "x", long); repack(t, s, "x", long) },
	} {
		d := roomy()
		lay(d)
		s := open(t, d)
		was := len(s.All())
		thin := thinOf(t, []string{long}, long+"more", "new", "y"+long)
		if _, err := pack.Read(thin, nil); api.Tell(err) != api.ErrBase {
			t.Fatal("it is not thin")
		}
		addPack(t, s, thin, long+"more", "new", "y"+long)
		for _, s := range []*store.Store{s, open(t, d), open(t, d.Copy())} {
			if len(s.All()) != was+3 {
				t.Errorf("%s: %d objects", name, len(s.All()))
			}
			for _, x := range []string{long + "more", "new", "y" + long, long, "x"} {
				gets(t, name, s, x)
			}
		}
		// The base goes, and what stood on it stays.
		repack(t, s, "y"+long)
		bothHave(t, name, s, d, "y"+long)
	}
}

// TestAddThinChain: 6.4, bases of the store make a chain shorter that is too long for the pack alone.
func TestAddThinChain(t *testing.T) {
	for _, byID := range []bool{false, true} {
		b, texts := chain(t, byID, 2*api.MaxChain)
		d := roomy()
		s := open(t, d)
		put(t, s, texts[api.MaxChain])
		if !byID {
			if _, err := s.AddPack(b); api.Tell(err) != api.ErrPack {
				t.Errorf("a chain by distances: %v", err)
			}
			bothHave(t, "refused", s, d, texts[api.MaxChain])
			continue
		}
		addPack(t, s, b, texts...)
		bothHave(t, "a long chain", s, d, texts...)
	}
}

// TestAddPackRefused: 6.4, the errors of pack.Read; nothing is changed.
func TestAddPackRefused(t *testing.T) {
	d := roomy()
	s := open(t, d)
	put(t, s, "a", long)
	whole, thin := packOf(t, "b", "c"), thinOf(t, []string{long + "x"}, long+"more")
	mixed := thinOf(t, []string{long + "x"}, long+"more", "good")
	turned := bytes.Clone(whole)
	turned[14] ^= 1
	before := picture(t, d)
	for _, c := range []struct {
		name string
		b    []byte
		want api.Errno
	}{
		{"nothing", nil, api.ErrPack},
		{"no pack", []byte("no pack"), api.ErrPack},
		{"half a pack", whole[:20], api.ErrPack},
		{"a byte behind", append(bytes.Clone(whole), 0), api.ErrPack},
		{"a bit turned", turned, api.ErrPack},
		{"an index", idxOf(t, whole), api.ErrPack},
		{"a base that is nowhere", thin, api.ErrBase},
		{"and an object beside it", mixed, api.ErrBase},
	} {
		if ids, err := s.AddPack(c.b); api.Tell(err) != c.want || len(ids) > 0 {
			t.Errorf("%s: %v, %v", c.name, ids, err)
		}
	}
	bothHave(t, "refused", s, d, "a", long)
	if picture(t, d) != before {
		t.Error("the disk is changed")
	}
	put(t, s, long+"x")
	addPack(t, s, thin, long+"more")
	bothHave(t, "the base came", s, d, "a", long, long+"x", long+"more")
}

// TestAddThinOnSpoilt: a base that is spoilt is none, if it is not there elsewhere.
func TestAddThinOnSpoilt(t *testing.T) {
	d := roomy()
	s := open(t, d)
	put(t, s, long, "a")
	d.Flip(looseName(long), 99)
	thin := thinOf(t, []string{long}, long+"more")
	if ids, err := s.AddPack(thin); api.Tell(err) != api.ErrBase || len(ids) > 0 {
		t.Errorf("%v, %v", ids, err)
	}
	addPack(t, s, packOf(t, long), long)
	addPack(t, s, thin, long+"more")
	bothHave(t, "there elsewhere", s, d, long, "a", long+"more")
}

// TestAddPackTaken: 6.4, a file of other bytes has a name that the pack needs.
func TestAddPackTaken(t *testing.T) {
	b, other := packOf(t, long, long+"more", "a"), packOf(t, "other")
	texts := []string{long, long + "more", "a"}
	for name, files := range map[string][][]byte{
		"noise":                       {[]byte("noise"), []byte("noise")},
		"nothing":                     {{}, {}},
		"another pack and its index":  {other, idxOf(t, other)},
		"another pack, and no index":  {other, nil},
		"another pack, and its index": {other, idxOf(t, b)},
		"the pack and another index":  {b, idxOf(t, other)},
		"an index of noise":           {nil, []byte("noise")},
	} {
		d := roomy()
		for i, end := range []string{".pack", ".idx"} {
			if files[i] != nil {
				write(t, d, stemOf(b)+end, files[i])
			}
		}
		s := open(t, d)
		put(t, s, "b")
		bothHave(t, name, s, d, "b")
		addPack(t, s, b, texts...)
		bothHave(t, name, s, d, append(texts, "b")...)
		repack(t, s, texts...)
		bothHave(t, name, s, d, texts...)
		isRepacked(t, name, d, texts...)
	}
}

// TestAddPackOverSpoilt: 6.4, the pack itself was there, and a bit of it, or of its index, turned behind Open.
func TestAddPackOverSpoilt(t *testing.T) {
	texts := []string{long, long + "more", "a"}
	b := packOf(t, texts...)
	for _, end := range []string{".pack", ".idx"} {
		for bit := uint(0); bit < 8*uint(len(b)); bit += 13 {
			d := roomy()
			s := open(t, d)
			addPack(t, s, b, texts...)
			d.Flip(stemOf(b)+end, bit)
			addPack(t, s, b, texts...)
			bothHave(t, "a bit turned in "+end, s, d, texts...)
		}
	}
}

// TestAddPackMost: 6.4, a pack of MaxObjects objects.
func TestAddPackMost(t *testing.T) {
	texts := numbers(api.MaxObjects)
	d := roomy()
	s := open(t, d)
	addPack(t, s, packOf(t, texts...), texts...)
	bothHave(t, "very many", s, d, texts...)
	if !slices.IsSortedFunc(s.All(), byBytes) {
		t.Error("All is not sorted")
	}
}
