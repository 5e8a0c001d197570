package pack_test

import (
	"bytes"
	"compress/zlib"
	"crypto/sha1"
	"encoding/binary"
	"math/rand"
	"testing"

	"gitlike/api"
	"gitlike/delta"
	"gitlike/object"
	"gitlike/pack"
)

// join puts bytes one behind another.
func join(parts ...[]byte) []byte { return bytes.Join(parts, nil) }

// noise is bytes of so many kinds, in no order.
func noise(r *rand.Rand, n, kinds int) []byte {
	b := make([]byte, n)
	for i := range b {
		b[i] = byte(r.Intn(kinds))
	}
	return b
}

func blob(s string) api.Object { return api.Object{Kind: api.Blob, Data: []byte(s)} }

// idOf is an object's id.
func idOf(t *testing.T, o api.Object) api.ID {
	t.Helper()
	id, err := object.ID(o)
	if err != nil {
		t.Fatal(err)
	}
	return id
}

// squeezer is used again and again, since a new one takes much memory.
var squeezer = zlib.NewWriter(nil)

// squeezed is a zlib stream, by another program than this one.
func squeezed(data []byte) []byte {
	var z bytes.Buffer
	squeezer.Reset(&z)
	squeezer.Write(data)
	squeezer.Close()
	return z.Bytes()
}

// stored is a zlib stream of at most 65535 bytes, 11 bytes longer than they are.
func stored(data []byte) []byte {
	n := len(data)
	s, t := 1, 0
	for _, x := range data {
		s = (s + int(x)) % 65521
		t = (t + s) % 65521
	}
	front := []byte{0x78, 0x01, 1, byte(n), byte(n >> 8), ^byte(n), ^byte(n >> 8)}
	return join(front, data, []byte{byte(t >> 8), byte(t), byte(s >> 8), byte(s)})
}

// kindAndSize is how an entry begins, as the document says it.
func kindAndSize(kind, size int) []byte {
	b := []byte{byte(kind*16 + size%16)}
	for size /= 16; size > 0; size /= 128 {
		b[len(b)-1] += 128
		b = append(b, byte(size%128))
	}
	return b
}

// distance is one, as the document says it.
func distance(n int) []byte {
	b := []byte{byte(n % 128)}
	for n /= 128; n > 0; n /= 128 {
		n--
		b = append([]byte{byte(n%128 + 128)}, b...)
	}
	return b
}

// plain is an entry of an object.
func plain(o api.Object) []byte {
	return join(kindAndSize(int(o.Kind), len(o.Data)), squeezed(o.Data))
}

// away is an entry of a delta on the entry that begins so far ahead.
func away(n int, d []byte) []byte {
	return join(kindAndSize(6, len(d)), distance(n), squeezed(d))
}

// named is an entry of a delta on the object of that id.
func named(id api.ID, d []byte) []byte {
	return join(kindAndSize(7, len(d)), id[:], squeezed(d))
}

// on is an entry of a delta of one object on another one, by its id.
func on(t *testing.T, base, o api.Object) []byte {
	t.Helper()
	return named(idOf(t, base), delta.Make(base.Data, o.Data))
}

// summed is bytes with their SHA-1 behind them.
func summed(b []byte) []byte {
	s := sha1.Sum(b)
	return join(b, s[:])
}

// telling is a pack that says that it has so many entries.
func telling(n int, entries ...[]byte) []byte {
	count := binary.BigEndian.AppendUint32(nil, uint32(n))
	return summed(join([]byte("PACK\x00\x00\x00\x02"), count, join(entries...)))
}

// packed is a pack of entries.
func packed(entries ...[]byte) []byte { return telling(len(entries), entries...) }

// same tells whether two lists have the same objects.
func same(l, m []api.Object) bool {
	if len(l) != len(m) {
		return false
	}
	for i := range l {
		if l[i].Kind != m[i].Kind || !bytes.Equal(l[i].Data, m[i].Data) {
			return false
		}
	}
	return true
}

// reads wants Read to answer just these objects.
func reads(t *testing.T, name string, b []byte, bases []api.Object, want ...api.Object) {
	t.Helper()
	l, err := pack.Read(b, bases)
	if err != nil || !same(l, want) {
		t.Errorf("%s: %d objects for %d, %v", name, len(l), len(want), err)
	}
}

// refused wants Read, Places and At to answer that error, and nothing beside it.
func refused(t *testing.T, name string, b []byte, bases []api.Object, want api.Errno) {
	t.Helper()
	l, err := pack.Read(b, bases)
	if api.Tell(err) != want || len(l) != 0 {
		t.Errorf("%s: Read: %d objects, %v for %v", name, len(l), err, want)
	}
	places, err := pack.Places(b, bases)
	if api.Tell(err) != want || len(places) != 0 {
		t.Errorf("%s: Places: %d, %v for %v", name, len(places), err, want)
	}
	o, err := pack.At(b, 12, bases)
	if api.Tell(err) != want || o.Kind != 0 || len(o.Data) != 0 {
		t.Errorf("%s: At: %v, %v for %v", name, o, err, want)
	}
}
