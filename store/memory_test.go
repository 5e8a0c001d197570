package store_test

import (
	"bytes"
	"math/rand"
	"slices"
	"testing"

	"gitlike/api"
	"gitlike/digest"
	"gitlike/store"
)

// ample is bytes with spare room behind them.
func ample(b []byte) []byte {
	return append(bytes.Clone(b), bytes.Repeat([]byte{0xa5}, 300)...)[:len(b)]
}

// isAsItWas wants bytes, and the room behind them, to be as ample made them.
func isAsItWas(t *testing.T, b, was []byte) {
	t.Helper()
	if !bytes.Equal(b, was) || bytes.Count(b[len(b):len(b)+300], []byte{0xa5}) != 300 {
		t.Errorf("%.20q is changed", was)
	}
	clear(b[:cap(b)])
}

// TestMemory scribbles over all that was handed in, and over each answer.
func TestMemory(t *testing.T) {
	d := roomy()
	s := open(t, d)
	data := ample([]byte("abc"))
	if _, err := s.Put(api.Object{Kind: api.Blob, Data: data}); err != nil {
		t.Fatal(err)
	}
	isAsItWas(t, data, []byte("abc"))
	whole, thin := packOf(t, long, "x"), thinOf(t, []string{long}, long+"more", long)
	for _, b := range [][]byte{whole, thin} {
		in := ample(b)
		ids, err := s.AddPack(in)
		if err != nil || len(ids) != 2 {
			t.Fatal(err)
		}
		isAsItWas(t, in, b)
		clear(ids[:cap(ids)])
	}
	all := []string{"abc", long, "x", long + "more"}
	scribble(t, s, all)
	bothHave(t, "added", s, d, all...)
	keep := idsOf(all[3], all[2], all[1], all[0], "behind", "them")
	was := slices.Clone(keep)
	if err := s.Repack(keep[:4]); err != nil || !slices.Equal(keep, was) {
		t.Errorf("%v", err)
	}
	clear(keep)
	scribble(t, s, all)
	bothHave(t, "repacked", s, d, all...)
}

// scribble writes over what the store answers.
func scribble(t *testing.T, s *store.Store, texts []string) {
	t.Helper()
	ids := s.All()
	clear(ids[:cap(ids)])
	for _, x := range texts {
		o, err := s.Get(idOf(x))
		if err != nil {
			t.Fatal(err)
		}
		clear(o.Data[:cap(o.Data)])
	}
}

// TestEnds: P1, disks that are none, and names that are hardly any.
func TestEnds(t *testing.T) {
	if s, err := store.Open(nil); s != nil || api.Tell(err) != api.ErrDisk {
		t.Errorf("no disk: %v, %v", s, err)
	}
	for want, d := range map[api.Errno]*api.Disk{api.ErrDisk: {}, api.ErrRoom: api.NewDisk(-5)} {
		s := open(t, d)
		if id, err := s.Put(blob("a")); id != (api.ID{}) || api.Tell(err) != want {
			t.Errorf("Put: %v, %v", id, err)
		}
		if ids, err := s.AddPack(packOf(t, "a", "b")); len(ids) > 0 || api.Tell(err) != want {
			t.Errorf("AddPack: %v, %v", ids, err)
		}
		repack(t, s)
		has(t, "nothing", s)
	}
	d := roomy()
	for _, name := range []string{"", "/", "objects", "objects/", "objects//", "objects/pack", "objects/pack/pack-", "objects/pack/pack-.pack", "objects/pack/pack-.idx", "objects/pack/.pack", ".pack", "\xff", "objects/\xff/\xff", "objects/zz/" + digest.Hex(api.ID{})[2:]} {
		write(t, d, name, []byte("noise"))
	}
	s := open(t, d)
	has(t, "noise", s)
	put(t, s, "a")
	repack(t, s, "a")
	bothHave(t, "noise", s, d, "a")
}

// TestNoiseEnds: P1 and 6.2, files of noise under the names of objects, packs and indexes.
func TestNoiseEnds(t *testing.T) {
	r := rand.New(rand.NewSource(3))
	whole := packOf(t, long, long+"more")
	for range 300 {
		d := roomy()
		for range 5 {
			var id api.ID
			r.Read(id[:])
			h := digest.Hex(id)
			write(t, d, "objects/"+h[:2]+"/"+h[2:], noise(r, r.Intn(60)))
			write(t, d, "objects/pack/pack-"+h+".pack", noise(r, r.Intn(60)))
			write(t, d, "objects/pack/pack-"+h+".idx", noise(r, r.Intn(1200)))
		}
		writePack(t, d, whole)
		s := open(t, d)
		has(t, "noise", s, long, long+"more")
		// Noise in the midst of what was right.
		b := bytes.Clone(whole)
		copy(b[12+r.Intn(len(b)-12):], noise(r, 1+r.Intn(9)))
		rewrite(t, d, stemOf(whole)+".pack", b)
		for _, x := range []string{long, long + "more"} {
			if o, err := s.Get(idOf(x)); err == nil && string(o.Data) != x || err != nil && api.Tell(err) != api.ErrCorrupt {
				t.Errorf("%d bytes, %v", len(o.Data), err)
			}
		}
		s.AddPack(noise(r, r.Intn(200)))
		s.AddPack(b)
	}
}
