package pack_test

import (
	"bytes"
	"math/rand"
	"slices"
	"testing"

	"gitlike/api"
	"gitlike/pack"
)

// roomy is bytes with spare room behind them.
func roomy(b []byte) []byte {
	return append(bytes.Clone(b), bytes.Repeat([]byte{0xa5}, 300)...)[:len(b)]
}

// isAsItWas wants bytes, and the room behind them, to be as roomy made them.
func isAsItWas(t *testing.T, b, was []byte) {
	t.Helper()
	if !bytes.Equal(b, was) || bytes.Count(b[len(b):len(b)+300], []byte{0xa5}) != 300 {
		t.Errorf("%q is changed", was)
	}
}

// TestReadsMemory scribbles over what was handed in, and over each answer.
func TestReadsMemory(t *testing.T) {
	abc, abcd, base := blob("abc"), blob("abcd"), blob("a base")
	one := plain(abc)
	was := packed(one, on(t, abc, abcd), on(t, base, blob("a base!")), on(t, base, base))
	b, data := roomy(was), roomy(base.Data)
	bases := append(make([]api.Object, 0, 5), api.Object{Kind: api.Blob, Data: data})
	l, err := pack.Read(b, bases)
	again, _ := pack.Read(b, bases)
	o, _ := pack.At(b, 12+len(one), bases)
	places, _ := pack.Places(b, bases)
	isAsItWas(t, b, was)
	isAsItWas(t, data, base.Data)
	for _, o := range bases[1:5] {
		if o.Kind != 0 || o.Data != nil {
			t.Errorf("in the room behind the bases: %v", o)
		}
	}
	clear(b[:cap(b)])
	clear(data[:cap(data)])
	for _, o := range again {
		clear(o.Data[:cap(o.Data)])
	}
	if want := []api.Object{abc, abcd, blob("a base!"), base}; err != nil || !same(l, want) || !same([]api.Object{o}, want[1:2]) || len(places) != 4 {
		t.Errorf("%v, %v, %v", l, o, err)
	}
	for i := range l {
		clear(l[i].Data[:cap(l[i].Data)])
		for _, o := range l[i+1:] {
			if bytes.Contains(o.Data, []byte{0}) {
				t.Errorf("objects of one answer share memory")
			}
		}
	}
}

// TestWritesMemory likewise.
func TestWritesMemory(t *testing.T) {
	r := rand.New(rand.NewSource(1))
	was := noise(r, 500, 200)
	like := changed(was, 250, 1)
	data, other := roomy(was), roomy(like)
	l := []api.Object{{Kind: api.Blob, Data: data}}
	has := []api.Object{{Kind: api.Blob, Data: other}}
	b, _ := pack.Thin(l, has)
	again, _ := pack.Thin(l, has)
	whole, _ := pack.Write(l)
	isAsItWas(t, data, was)
	isAsItWas(t, other, like)
	clear(data[:cap(data)])
	clear(other[:cap(other)])
	clear(again[:cap(again)])
	reads(t, "thin", b, []api.Object{{Kind: api.Blob, Data: like}}, api.Object{Kind: api.Blob, Data: was})
	reads(t, "whole", whole, nil, api.Object{Kind: api.Blob, Data: was})
}

// TestIdxMemory has places that are not by their ids, with room behind them.
func TestIdxMemory(t *testing.T) {
	l := append(some(), api.Place{ID: api.ID{5}}, api.Place{ID: api.ID{4}})
	slices.Reverse(l)
	was := slices.Clone(l)
	b, _ := pack.WriteIdx(l[:5], api.ID{3})
	again, _ := pack.WriteIdx(l[:5], api.ID{3})
	if !slices.Equal(l, was) {
		t.Errorf("%v", l)
	}
	clear(l)
	clear(again[:cap(again)])
	in := roomy(b)
	got, _, err := pack.ReadIdx(in)
	pack.Find(in, api.ID{7})
	isAsItWas(t, in, b)
	clear(in[:cap(in)])
	if want := []api.Place{was[0], was[1], was[4], was[3], was[2]}; err != nil || !slices.Equal(got, want) {
		t.Errorf("%v, %v", got, err)
	}
}

// TestNoiseEnds has bytes that are nothing, and packs of noise with all around it right.
func TestNoiseEnds(t *testing.T) {
	r := rand.New(rand.NewSource(2))
	for range 20000 {
		b := noise(r, r.Intn(80), 256)
		refused(t, "noise", b, nil, api.ErrPack)
		b = telling(1+r.Intn(3), b)
		l, err := pack.Read(b, []api.Object{blob("abc")})
		if e := api.Tell(err); e != api.ErrPack && e != api.ErrBase && (e != api.OK || len(l) == 0) {
			t.Errorf("% x: %v, %v", b, l, err)
		}
	}
	for range 200 {
		noIdx(t, "noise", noise(r, 1072+28*r.Intn(3), 256))
	}
}
