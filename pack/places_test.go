package pack_test

import (
	"bytes"
	"hash/crc32"
	"testing"

	"gitlike/api"
	"gitlike/pack"
)

// TestPlaces: 5.5, ids, offsets and sums, by their ids.
func TestPlaces(t *testing.T) {
	if l, err := pack.Places(packed(), nil); err != nil || len(l) != 0 {
		t.Errorf("no entries: %v, %v", l, err)
	}
	base := blob("a base that is not there")
	objects := []api.Object{blob("one more byte"), {Kind: api.Tag, Data: []byte("abc")}, blob(""), blob("a base that is not there.")}
	for i := range 100 {
		objects = append(objects, blob(string(rune('a'+i))))
	}
	var entries [][]byte
	begins := map[api.ID]int{}
	at := 12
	for i, o := range objects {
		e := plain(o)
		if i == 3 {
			e = on(t, base, o)
		}
		entries = append(entries, e)
		begins[idOf(t, o)] = i
	}
	b := packed(entries...)
	l, err := pack.Places(b, []api.Object{base})
	if err != nil || len(l) != len(objects) {
		t.Fatalf("%d places, %v", len(l), err)
	}
	where := map[int]int{}
	for i, e := range entries {
		where[i] = at
		at += len(e)
	}
	for i, p := range l {
		n, there := begins[p.ID]
		if !there || p.Offset != where[n] || p.CRC != crc32.ChecksumIEEE(entries[n]) {
			t.Errorf("%v", p)
		}
		if i > 0 && bytes.Compare(l[i-1].ID[:], p.ID[:]) >= 0 {
			t.Errorf("%x ahead of %x", l[i-1].ID, p.ID)
		}
		o, err := pack.At(b, p.Offset, []api.Object{base})
		if err != nil || !same([]api.Object{o}, objects[n:n+1]) {
			t.Errorf("At(%d): %v, %v", p.Offset, o, err)
		}
	}
	refused(t, "without the base", b, nil, api.ErrBase)
}

// TestAt: 5.5, all places where no entry begins.
func TestAt(t *testing.T) {
	one, two := plain(blob("abc")), on(t, blob("abc"), blob("abcd"))
	b := packed(one, two)
	for at := -40; at < len(b)+40; at++ {
		o, err := pack.At(b, at, nil)
		switch at {
		case 12:
			if err != nil || string(o.Data) != "abc" || o.Kind != api.Blob {
				t.Errorf("the first: %v, %v", o, err)
			}
		case 12 + len(one):
			if err != nil || string(o.Data) != "abcd" || o.Kind != api.Blob {
				t.Errorf("the second: %v, %v", o, err)
			}
		default:
			if api.Tell(err) != api.ErrPack || o.Kind != 0 || len(o.Data) != 0 {
				t.Errorf("At(%d): %v, %v", at, o, err)
			}
		}
	}
	for _, at := range []int{-1 << 63, 1<<63 - 1, 0, 12} {
		if o, err := pack.At(packed(), at, nil); api.Tell(err) != api.ErrPack || o.Kind != 0 {
			t.Errorf("At(%d) of no entries: %v, %v", at, o, err)
		}
		if _, err := pack.At(packed(two), at, nil); api.Tell(err) != api.ErrBase {
			t.Errorf("At(%d) where a base is nowhere: %v", at, err)
		}
	}
}
