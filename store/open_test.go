package store_test

import (
	"bytes"
	"strings"
	"testing"

	"gitlike/api"
	"gitlike/deflate"
	"gitlike/digest"
	"gitlike/object"
	"gitlike/pack"
	"gitlike/store"
)

// TestOpenLoose: 6.1 and 6.2, objects by themselves, whoever wrote them, and files that are none.
func TestOpenLoose(t *testing.T) {
	whole := squeezed(encoded("abc"))
	h := digest.Hex(idOf("abc"))
	short := bytes.Repeat([]byte{0}, 70)
	long := squeezed(append([]byte("blob 100001\x00"), make([]byte, 100001)...))
	for _, c := range []struct {
		name, file string
		b          []byte
		is         bool
	}{
		{"another program's stream", looseName("abc"), whole, true},
		{"the program's own", looseName("abc"), deflate.Deflate(encoded("abc")), true},
		{"another object", looseName("abc"), squeezed(encoded("abd")), false},
		{"no object", looseName("abc"), squeezed([]byte("abc")), false},
		{"a header of another length", looseName("abc"), squeezed([]byte("blob 4\x00abc")), false},
		{"no stream", looseName("abc"), encoded("abc"), false},
		{"nothing", looseName("abc"), nil, false},
		{"noughts", looseName("abc"), short, false},
		{"cut short by one", looseName("abc"), whole[:len(whole)-1], false},
		{"half of it", looseName("abc"), whole[:len(whole)/2], false},
		{"a byte behind it", looseName("abc"), append(bytes.Clone(whole), 0), false},
		{"twice", looseName("abc"), append(bytes.Clone(whole), whole...), false},
		{"capital digits", "objects/" + strings.ToUpper(h[:2]) + "/" + strings.ToUpper(h[2:]), whole, false},
		{"too short", "objects/" + h[:2] + "/" + h[2:39], whole, false},
		{"too long", "objects/" + h[:2] + "/" + h[2:] + "0", whole, false},
		{"three digits ahead", "objects/" + h[:3] + "/" + h[3:], whole, false},
		{"no slash", "objects/" + h, whole, false},
		{"two slashes", "objects/" + h[:2] + "//" + h[2:], whole, false},
		{"a slash more", "objects/" + h[:2] + "/" + h[2:9] + "/" + h[9:], whole, false},
		{"nothing ahead", h[:2] + "/" + h[2:], whole, false},
		{"something else ahead", "object/" + h[:2] + "/" + h[2:], whole, false},
		{"something more ahead", "x/" + looseName("abc"), whole, false},
		{"twice that ahead", "objects/" + looseName("abc"), whole, false},
		{"more than MaxBlob bytes", "objects/" + digest.Hex(digest.Sum([]byte("blob 100001\x00" + string(make([]byte, 100001)))))[:2] + "/" + digest.Hex(digest.Sum([]byte("blob 100001\x00" + string(make([]byte, 100001)))))[2:], long, false},
	} {
		d := roomy()
		write(t, d, c.file, c.b)
		before := picture(t, d)
		if c.is {
			has(t, c.name, open(t, d), "abc")
		} else {
			s := open(t, d)
			has(t, c.name, s)
			fails(t, c.name, s, "abc", api.ErrMissing)
		}
		if picture(t, d) != before {
			t.Errorf("%s: the disk is changed", c.name)
		}
		// What is there is no hindrance to putting it.
		s := open(t, d)
		put(t, s, "abc")
		bothHave(t, c.name+", put", s, d, "abc")
	}
}

// TestOpenKinds: 6.1, objects of all kinds, and of the greatest length; their bytes are not looked at (3.1).
func TestOpenKinds(t *testing.T) {
	for kind := api.Commit; kind <= api.Tag; kind++ {
		for _, n := range []int{0, 1, 100000} {
			o := api.Object{Kind: kind, Data: bytes.Repeat([]byte("x"), n)}
			id, _ := object.ID(o)
			d := roomy()
			s := open(t, d)
			if got, err := s.Put(o); err != nil || got != id {
				t.Errorf("kind %d: %v, %v", kind, got, err)
			}
			for range 2 {
				if got, err := s.Get(id); err != nil || got.Kind != kind || !bytes.Equal(got.Data, o.Data) {
					t.Errorf("kind %d, %d bytes: %v", kind, n, err)
				}
				s = open(t, d)
			}
		}
	}
}

// TestOpenPacks: 6.1 and 6.2, packs and what is none.
func TestOpenPacks(t *testing.T) {
	b := packOf(t, long, long+"more", "too")
	idx := idxOf(t, b)
	other := packOf(t, "other")
	thin := thinOf(t, []string{long}, long+"more")
	places, _ := pack.Places(b, nil)
	stem := stemOf(b)
	crc := append([]api.Place(nil), places...)
	crc[1].CRC++
	crcIdx, _ := pack.WriteIdx(crc, api.ID(b[len(b)-20:]))
	fewIdx, _ := pack.WriteIdx(places[1:], api.ID(b[len(b)-20:]))
	sumIdx, _ := pack.WriteIdx(places, api.ID{1})
	otherIdx, _ := pack.WriteIdx(places, api.ID(other[len(other)-20:]))
	turned := bytes.Clone(b)
	turned[40] ^= 4
	type file struct {
		name string
		b    []byte
	}
	for _, c := range []struct {
		name  string
		files []file
		is    bool
	}{
		{"both", []file{{stem + ".pack", b}, {stem + ".idx", idx}}, true},
		{"the pack alone", []file{{stem + ".pack", b}}, false},
		{"the index alone", []file{{stem + ".idx", idx}}, false},
		{"another pack's index", []file{{stem + ".pack", b}, {stem + ".idx", idxOf(t, other)}}, false},
		{"an index of another CRC", []file{{stem + ".pack", b}, {stem + ".idx", crcIdx}}, false},
		{"an index of fewer objects", []file{{stem + ".pack", b}, {stem + ".idx", fewIdx}}, false},
		{"an index of another sum", []file{{stem + ".pack", b}, {stem + ".idx", sumIdx}}, false},
		{"half an index", []file{{stem + ".pack", b}, {stem + ".idx", idx[:len(idx)/2]}}, false},
		{"an empty index", []file{{stem + ".pack", b}, {stem + ".idx", nil}}, false},
		{"an empty pack", []file{{stem + ".pack", nil}, {stem + ".idx", idx}}, false},
		{"half a pack", []file{{stem + ".pack", b[:len(b)/2]}, {stem + ".idx", idx}}, false},
		{"a pack with a byte behind", []file{{stem + ".pack", append(bytes.Clone(b), 0)}, {stem + ".idx", idx}}, false},
		{"a bit turned", []file{{stem + ".pack", turned}, {stem + ".idx", idx}}, false},
		{"another name", []file{{stemOf(other) + ".pack", b}, {stemOf(other) + ".idx", idx}}, false},
		{"another name, and an index for it", []file{{stemOf(other) + ".pack", b}, {stemOf(other) + ".idx", otherIdx}}, false},
		{"a name of capitals", []file{{"objects/pack/pack-" + strings.ToUpper(stem[18:]) + ".pack", b}, {"objects/pack/pack-" + strings.ToUpper(stem[18:]) + ".idx", idx}}, false},
		{"a name too short", []file{{stem[:50] + ".pack", b}, {stem[:50] + ".idx", idx}}, false},
		{"no end", []file{{stem, b}, {stem + ".idx", idx}}, false},
		{"another end", []file{{stem + ".pack.new", b}, {stem + ".idx", idx}}, false},
		{"another folder", []file{{"objects/" + stem[13:] + ".pack", b}, {"objects/" + stem[13:] + ".idx", idx}}, false},
		{"one that needs a base", []file{{stemOf(thin) + ".pack", thin}, {stemOf(thin) + ".idx", idxOf(t, thin, blob(long))}}, false},
	} {
		d := roomy()
		write(t, d, looseName("loose"), squeezed(encoded("loose")))
		for _, f := range c.files {
			write(t, d, f.name, f.b)
		}
		before := picture(t, d)
		s := open(t, d)
		if c.is {
			has(t, c.name, s, "loose", long, long+"more", "too")
		} else {
			has(t, c.name, s, "loose")
		}
		if picture(t, d) != before {
			t.Errorf("%s: the disk is changed", c.name)
		}
		addPack(t, s, b, long, long+"more", "too")
		bothHave(t, c.name+", added", s, d, "loose", long, long+"more", "too")
	}
}

// TestThinHasNothing: 6.1, a pack that needs a base is none, though the store has that base.
func TestThinHasNothing(t *testing.T) {
	d := roomy()
	thin := thinOf(t, []string{long}, long+"more")
	write(t, d, stemOf(thin)+".pack", thin)
	write(t, d, stemOf(thin)+".idx", idxOf(t, thin, blob(long)))
	s := open(t, d)
	put(t, s, long)
	bothHave(t, "with its base", s, d, long)
}

// TestTwice: an object that is loose and in a pack, and in two packs, is one.
func TestTwice(t *testing.T) {
	d := roomy()
	write(t, d, looseName("a"), squeezed(encoded("a")))
	writePack(t, d, packOf(t, "a", "b"))
	writePack(t, d, packOf(t, "b", "c", "a"))
	s := open(t, d)
	bothHave(t, "twice", s, d, "a", "b", "c")
	repack(t, s, "a", "b", "c")
	bothHave(t, "repacked", s, d, "a", "b", "c")
	isRepacked(t, "repacked", d, "a", "b", "c")
}

// TestOpenFails: 6.2, ErrDisk, whichever operation fails; a failed Open changes nothing either.
func TestOpenFails(t *testing.T) {
	d := roomy()
	s := open(t, d)
	put(t, s, "a", "b")
	addPack(t, s, packOf(t, "c", "d"), "c", "d")
	before := picture(t, d)
	for after := 0; ; after++ {
		d.Fail(after, 1)
		s, err := store.Open(d)
		d.Fail(0, 0)
		if err == nil {
			if after < 4 {
				t.Errorf("%d operations are enough", after)
			}
			has(t, "all done", s, "a", "b", "c", "d")
			break
		}
		if s != nil || api.Tell(err) != api.ErrDisk {
			t.Errorf("behind %d operations: %v, %v", after, s, err)
		}
	}
	if picture(t, d) != before {
		t.Error("the disk is changed")
	}
}
