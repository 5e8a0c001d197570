package pack_test

import (
	"bytes"
	"crypto/sha1"
	"encoding/binary"
	"math/rand"
	"testing"

	"gitlike/api"
	"gitlike/deflate"
	"gitlike/pack"
)

// parsed is 5.1 and 5.2, as the document's words say it: the entries, and whether the bytes are a pack's.
func parsed(b []byte) (l []told, ok bool) {
	if len(b) < 32 || !bytes.Equal(b[:8], []byte{'P', 'A', 'C', 'K', 0, 0, 0, 2}) {
		return nil, false
	}
	body := b[:len(b)-20]
	if sum := sha1.Sum(body); !bytes.Equal(sum[:], b[len(body):]) {
		return nil, false
	}
	count := binary.BigEndian.Uint32(b[8:])
	if count > 5000 {
		return nil, false
	}
	begins := map[int]int{}
	at := 12
	for i := range int(count) {
		e, next, right := oneParsed(body, at, begins)
		if !right {
			return nil, false
		}
		l = append(l, e)
		begins[at] = i
		at = next
	}
	return l, at == len(body)
}

// oneParsed is the entry that begins at a place, and where the next one does.
func oneParsed(body []byte, at int, begins map[int]int) (e told, next int, ok bool) {
	e.on = -1
	take := func() int {
		if next++; next > len(body) {
			return -1
		}
		return int(body[next-1])
	}
	next = at
	x := take()
	if x < 0 {
		return e, 0, false
	}
	kind, size, worth := x/16%8, x%16, 16
	for n := 1; x >= 128; n++ {
		if x = take(); x <= 0 || n == 5 {
			return e, 0, false
		}
		size += x % 128 * worth
		worth *= 128
	}
	most := 100000
	switch kind {
	case 0, 5:
		return e, 0, false
	case 6:
		far := 0
		for n := 0; ; n++ {
			if x = take(); x < 0 || n == 4 {
				return e, 0, false
			}
			far = far*128 + x%128
			if x < 128 {
				break
			}
			far++
		}
		on, there := begins[at-far]
		if !there {
			return e, 0, false
		}
		e.on, most = on, 200000
	case 7:
		if len(body)-next < 20 {
			return e, 0, false
		}
		next += copy(e.id[:], body[next:])
		most = 200000
	}
	data, used, err := deflate.Inflate(body[next:], most)
	if err != nil || len(data) != size {
		return e, 0, false
	}
	if kind < 5 {
		e.object = api.Object{Kind: api.Kind(kind), Data: data}
	} else {
		e.delta = append([]byte{}, data...)
	}
	return e, next + used, true
}

// TestAnyBytes holds Read against the document's words, for packs of which bytes are others, are gone or are there twice, with the right SHA-1 behind them.
func TestAnyBytes(t *testing.T) {
	r := rand.New(rand.NewSource(6))
	count := map[api.Errno]int{}
	for range 8000 {
		entries, bases := anyPack(t, r)
		b := build(entries)
		b = b[:len(b)-20]
		at := 8 + r.Intn(len(b)-8)
		switch r.Intn(5) {
		case 0:
			b[at] ^= 1 << r.Intn(8)
		case 1:
			b[at] = byte(r.Intn(256))
		case 2:
			b = append(b[:at:at], b[at+1:]...)
		case 3:
			b = append(b[:at+1:at+1], b[at:]...)
		}
		b = summed(b)
		want := answer{err: api.ErrPack}
		if l, ok := parsed(b); ok {
			want = plainly(t, l, bases)
		}
		got, err := pack.Read(b, bases)
		if api.Tell(err) != want.err || !same(got, want.objects) {
			t.Fatalf("%d objects, %v for %d, %v: % x", len(got), err, len(want.objects), want.err, b)
		}
		count[want.err]++
	}
	if len(count) != 3 || min(count[api.OK], count[api.ErrPack], count[api.ErrBase]) < 300 {
		t.Errorf("%v", count)
	}
}
