package pack_test

import (
	"bytes"
	"encoding/binary"
	"math/rand"
	"testing"

	"gitlike/api"
	"gitlike/delta"
	"gitlike/pack"
)

// TestFrame: 5.1, what stands around the entries.
func TestFrame(t *testing.T) {
	abc, de := blob("abc"), blob("de")
	a, b := plain(abc), plain(de)
	whole := packed(a, b)
	reads(t, "no entries", packed(), nil)
	reads(t, "one", packed(a), nil, abc)
	reads(t, "two", whole, nil, abc, de)
	refused(t, "one entry too few", telling(3, a, b), nil, api.ErrPack)
	refused(t, "one entry too many", telling(1, a, b), nil, api.ErrPack)
	refused(t, "entries where none are told", telling(0, a), nil, api.ErrPack)
	refused(t, "no entries where one is told", telling(1), nil, api.ErrPack)
	refused(t, "very many entries", telling(1<<32-1, a, b), nil, api.ErrPack)
	refused(t, "bytes behind the last entry", telling(2, a, b, []byte{0}), nil, api.ErrPack)
	refused(t, "bytes ahead of the first one", telling(2, []byte{0}, a, b), nil, api.ErrPack)
	refused(t, "bytes behind the sum", join(whole, []byte{0}), nil, api.ErrPack)
	refused(t, "twice the sum", summed(whole), nil, api.ErrPack)
	for n := range len(whole) {
		refused(t, "cut off", whole[:n], nil, api.ErrPack)
		if n != len(whole)-20 {
			refused(t, "cut off, with a sum", summed(whole[:n]), nil, api.ErrPack)
		}
	}
}

// TestTurnedBits: 5.1, a bit of a pack turned about is never right, since its sum is not; nor is one of its head, whatever its sum.
func TestTurnedBits(t *testing.T) {
	whole := packed(plain(blob("abc")))
	for bit := range 8 * len(whole) {
		b := bytes.Clone(whole)
		b[bit/8] ^= 1 << (bit % 8)
		refused(t, "a bit turned", b, nil, api.ErrPack)
		if bit < 8*12 {
			refused(t, "a bit turned, and the sum made again", summed(b[:len(b)-20]), nil, api.ErrPack)
		}
	}
}

// TestKinds: 5.1 and 5.3, all kinds that are, and are not.
func TestKinds(t *testing.T) {
	data, d := []byte("abc"), []byte{3, 4, 0x90, 3, 1, 'd'}
	for kind := range 8 {
		k := api.Kind(kind)
		b := packed(join(kindAndSize(kind, 3), squeezed(data)))
		if k < api.Commit || k > api.Tag {
			refused(t, "no object", b, nil, api.ErrPack)
			continue
		}
		o, more := api.Object{Kind: k, Data: data}, api.Object{Kind: k, Data: []byte("abcd")}
		reads(t, "an object", b, nil, o)
		one := plain(o)
		reads(t, "a delta has its base's kind", packed(one, away(len(one), d)), nil, o, more)
		reads(t, "a delta has its base's kind, by an id", packed(on(t, o, more)), []api.Object{o}, more)
	}
	refused(t, "the id is not all there", packed(join([]byte{0x71}, make([]byte, 19))), nil, api.ErrPack)
	refused(t, "no stream behind the id", packed(join([]byte{0x71}, make([]byte, 20))), nil, api.ErrPack)
}

// TestSizes: 5.1, a size's bytes; 5.2, it is the stream's.
func TestSizes(t *testing.T) {
	r := rand.New(rand.NewSource(1))
	for _, n := range []int{0, 1, 15, 16, 17, 127, 128, 2047, 2048, 65536, api.MaxBlob} {
		o := api.Object{Kind: api.Blob, Data: noise(r, n, 256)}
		reads(t, "a size", packed(plain(o)), nil, o)
	}
	stream := squeezed([]byte("abc"))
	for name, head := range map[string][]byte{
		"a byte more":                {0x34},
		"a byte less":                {0x32},
		"none":                       {0x30},
		"many more":                  {0xb3, 1},
		"a last byte 0":              {0xb3, 0},
		"a last byte 0 of three":     {0xb3, 0x80, 0},
		"a last byte 0 of five":      {0xb3, 0x80, 0x80, 0x80, 0},
		"five bytes":                 {0xb3, 0x80, 0x80, 0x80, 1},
		"five bytes, the greatest":   {0xbf, 0xff, 0xff, 0xff, 0x7f},
		"six bytes":                  {0xb3, 0x80, 0x80, 0x80, 0x80, 1},
		"six bytes, the last one 0":  {0xb3, 0x80, 0x80, 0x80, 0x80, 0},
		"bytes that do not end":      bytes.Repeat([]byte{0xb3}, 40),
		"five bytes of a delta":      {0xe3, 0x80, 0x80, 0x80, 1, 12},
		"2 to the power of 28":       {0xb3, 0x80, 0x80, 0x80, 0x8, 12},
		"a size of 32 bits and more": {0xb3, 0x80, 0x80, 0x80, 0x80, 0x7f},
	} {
		refused(t, name, packed(join(head, stream)), nil, api.ErrPack)
	}
	for n := 1; n < 6; n++ {
		refused(t, "a size that is cut off", packed(bytes.Repeat([]byte{0xb3}, n)), nil, api.ErrPack)
	}
}

// TestMostBytes: 5.2, how many bytes come out of a stream at most.
func TestMostBytes(t *testing.T) {
	most := make([]byte, api.MaxBlob)
	reads(t, "MaxBlob", packed(plain(api.Object{Kind: api.Tree, Data: most})), nil, api.Object{Kind: api.Tree, Data: most})
	for kind := api.Commit; kind <= api.Tag; kind++ {
		refused(t, "MaxBlob and one more", packed(plain(api.Object{Kind: kind, Data: append(most, 0)})), nil, api.ErrPack)
	}
	// Steps of one byte each: 99998 of them, behind sizes of 4 or 5 bytes.
	steps := bytes.Repeat([]byte{1, 'x'}, 99998)
	made := blob(string(bytes.Repeat([]byte{'x'}, 99998)))
	short, long := blob(""), blob(string(make([]byte, 128)))
	d := join([]byte{0, 0x9e, 0x8d, 6}, steps)
	if len(d) != 200000 {
		t.Fatal(len(d))
	}
	longer := join([]byte{0x80, 1, 0x9e, 0x8d, 6}, steps)
	if out, err := delta.Apply(long.Data, longer); err != nil || !bytes.Equal(out, made.Data) {
		t.Fatal(err)
	}
	for name, entry := range map[string]func(base, d []byte) []byte{
		"away":  func(base, d []byte) []byte { return away(len(base), d) },
		"named": func(base, d []byte) []byte { return named(idOf(t, short), d) },
	} {
		reads(t, name, packed(plain(short), entry(plain(short), d)), nil, short, made)
	}
	refused(t, "200001, away", packed(plain(long), away(len(plain(long)), longer)), nil, api.ErrPack)
	refused(t, "200001, named", packed(plain(long), named(idOf(t, long), longer)), nil, api.ErrPack)
	refused(t, "200001, its base nowhere", packed(named(idOf(t, long), longer)), nil, api.ErrPack)
	all := blob(string(most))
	over := join([]byte{0xa0, 0x8d, 6, 0xa1, 0x8d, 6, 0xf0, 0xa0, 0x86, 1, 1, 'x'})
	refused(t, "a delta that makes MaxBlob and one more", packed(plain(all), away(len(plain(all)), over)), nil, api.ErrPack)
}

// TestStreams: 5.1, streams that are none, and are not all there.
func TestStreams(t *testing.T) {
	stream := squeezed([]byte("abc"))
	for bit := range 8 * len(stream) {
		b := bytes.Clone(stream)
		b[bit/8] ^= 1 << (bit % 8)
		if l, err := pack.Read(packed(join([]byte{0x33}, b)), nil); err == nil && !same(l, []api.Object{blob("abc")}) {
			t.Errorf("a bit turned: %v", l)
		}
	}
	for n := range stream {
		refused(t, "cut off", packed(join([]byte{0x33}, stream[:n])), nil, api.ErrPack)
	}
	// The stream's last bytes would be the pack's sum: that is not the entry's.
	b := packed(plain(blob("abc")))
	refused(t, "a stream up to the end", b[:len(b)-20], nil, api.ErrPack)
}

// filled is entries of so many bytes, all of other objects.
func filled(total int) (entries [][]byte, objects []api.Object) {
	for total > 0 {
		for _, head := range []int{3, 2, 1} {
			n := min(50000, total-11-head)
			if n < 0 || len(kindAndSize(3, n)) != head {
				continue
			}
			data := binary.BigEndian.AppendUint32(nil, uint32(len(entries)))
			o := blob(string(append(data, make([]byte, n)...)[:n]))
			objects = append(objects, o)
			entries = append(entries, join(kindAndSize(3, n), stored(o.Data)))
			total -= n + 11 + head
			break
		}
	}
	return entries, objects
}

// TestDistances: 5.1, a distance's bytes.
func TestDistances(t *testing.T) {
	for n, want := range map[int][]byte{127: {0x7f}, 128: {0x80, 0}, 255: {0x80, 0x7f}, 256: {0x81, 0}} {
		if !bytes.Equal(distance(n), want) {
			t.Fatalf("% x", distance(n))
		}
	}
	for _, n := range []int{17, 126, 127, 128, 129, 254, 255, 256, 16511, 16512, 16513, 40000, 2113663, 2113664, 2200000} {
		entries, objects := filled(n)
		if len(join(entries...)) != n {
			t.Fatal(n)
		}
		first := objects[0]
		made := blob(string(first.Data) + "!")
		d := delta.Make(first.Data, made.Data)
		reads(t, "a distance", packed(append(entries, away(n, d))...), nil, append(objects, made)...)
		for _, wrong := range []int{n - 1, n + 1, n + 12, n + 1<<20} {
			refused(t, "between entries, or ahead of the first", packed(append(entries, away(wrong, d))...), nil, api.ErrPack)
		}
	}
}

// TestNoDistances: 5.1, what is no distance, or leads nowhere.
func TestNoDistances(t *testing.T) {
	one := plain(blob("abc"))
	d := []byte{3, 4, 0x90, 3, 1, 'd'}
	two := away(len(one), d)
	size := kindAndSize(6, len(d))
	reads(t, "right", packed(one, two), nil, blob("abc"), blob("abcd"))
	for name, far := range map[string][]byte{
		"0":                         {0},
		"5 bytes":                   {0x80, 0x80, 0x80, 0x80, byte(len(one))},
		"5 bytes, the last one 0":   {0x80, 0x80, 0x80, 0x80, 0},
		"5 bytes, the greatest":     {0xff, 0xff, 0xff, 0xff, 0x7f},
		"4 bytes, the greatest":     {0xff, 0xff, 0xff, 0x7f},
		"9 bytes":                   bytes.Repeat([]byte{0xff}, 9),
		"bytes that do not end":     bytes.Repeat([]byte{0xff}, 99),
		"2 bytes, as a size is":     {byte(len(one)) + 128, 0},
		"between entries":           {byte(len(one)) - 1},
		"ahead of the first":        {byte(len(one)) + 1},
		"the pack's beginning":      {byte(len(one)) + 12},
		"ahead of the pack":         {byte(len(one)) + 13},
		"far ahead of the pack":     {0xff, 0xff, 0x7f},
		"1, within the entry ahead": {1},
	} {
		refused(t, name, packed(one, join(size, far, squeezed(d))), nil, api.ErrPack)
		refused(t, name+", of the first entry", packed(join(size, far, squeezed(d)), one), nil, api.ErrPack)
	}
	for n := 1; n < 5; n++ {
		refused(t, "a distance that is cut off", packed(one, join(size, bytes.Repeat([]byte{0x80}, n))), nil, api.ErrPack)
	}
	refused(t, "a distance that is not there", packed(one, size), nil, api.ErrPack)
}

// TestManyEntries: 5.1, MaxObjects and one more.
func TestManyEntries(t *testing.T) {
	var entries [][]byte
	var objects []api.Object
	for i := range api.MaxObjects + 1 {
		o := blob(string(binary.BigEndian.AppendUint32(nil, uint32(i))))
		objects = append(objects, o)
		entries = append(entries, join([]byte{0x34}, stored(o.Data)))
	}
	reads(t, "MaxObjects", packed(entries[:api.MaxObjects]...), nil, objects[:api.MaxObjects]...)
	refused(t, "MaxObjects and one more", packed(entries...), nil, api.ErrPack)
}
