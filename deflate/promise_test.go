package deflate_test

import (
	"bytes"
	"compress/zlib"
	"io"
	"math/rand"
	"slices"
	"strings"
	"testing"

	"gitlike/api"
	"gitlike/deflate"
)

// tame wants a call to end without a panic, with no answer beside an error, the same each time; and what it takes for a stream another program takes for the same.
func tame(t *testing.T, in []byte, most int) {
	t.Helper()
	out, used, err := deflate.Inflate(in, most)
	again, usedAgain, errAgain := deflate.Inflate(in, most)
	if !bytes.Equal(out, again) || used != usedAgain || err != errAgain {
		t.Fatalf("%x: not the same again", in)
	}
	switch api.Tell(err) {
	case api.ErrZlib, api.ErrLong:
		if len(out) != 0 || used != 0 {
			t.Fatalf("%x: %d bytes, %d used beside an error", in, len(out), used)
		}
	case api.OK:
		r, err := zlib.NewReader(bytes.NewReader(in[:used]))
		if err != nil {
			t.Fatalf("%x: %v", in, err)
		}
		if other, err := io.ReadAll(r); err != nil || !bytes.Equal(out, other) || len(out) > max(most, 0) {
			t.Fatalf("%x: %d bytes, not %d, %v", in, len(out), len(other), err)
		}
	default:
		t.Fatalf("%x: %v", in, err)
	}
}

// streams are some that are right.
func streams() [][]byte {
	text := strings.Repeat("one block, and another block; ", 20)
	lengths := some(258, 'a', 1, 256, 2, 257, 2)
	l := [][]byte{
		deflate.Deflate(nil),
		deflate.Deflate([]byte(text)),
		deflate.Deflate(noise(11, 100)),
		new(row).stored(false, []byte("aa")).told(true, lengths, []int{1, 1}).code("0").code("11").code("1").code("10").zlib("aaaaaa"),
	}
	for _, level := range []int{zlib.HuffmanOnly, 1, 9} {
		var z bytes.Buffer
		w, _ := zlib.NewWriterLevel(&z, level)
		w.Write([]byte(text))
		w.Close()
		l = append(l, z.Bytes())
	}
	return l
}

func TestInflateOfBrokenStreams(t *testing.T) {
	for _, z := range streams() {
		for cut := range z {
			tame(t, z[:cut], 1000)
		}
		for bit := range 8 * len(z) {
			b := slices.Clone(z)
			b[bit/8] ^= 1 << (bit % 8)
			tame(t, b, 1000)
			tame(t, b, 10)
		}
		r := rand.New(rand.NewSource(12))
		for range 3000 {
			b := slices.Clone(z)
			for range 1 + r.Intn(4) {
				b[2+r.Intn(len(b)-2)] = byte(r.Intn(256))
			}
			tame(t, b, r.Intn(2000)-100)
		}
	}
}

func TestInflateOfNoise(t *testing.T) {
	for _, b := range [][]byte{nil, {}, {0x78}, {0x78, 0x01}} {
		wants(t, "too short", b, 10, api.ErrZlib, "", 0)
	}
	r := rand.New(rand.NewSource(13))
	for range 30000 {
		b := make([]byte, r.Intn(200))
		r.Read(b)
		tame(t, b, r.Intn(300)-10)
		tame(t, append([]byte{0x78, 0x01, byte(1 + 2*r.Intn(4))}, b...), r.Intn(300)-10)
	}
}

// TestInflateOfMuch: a stream of a few bytes from which a great many would come ends at once where few may.
func TestInflateOfMuch(t *testing.T) {
	r := new(row).block(true, 1).fixed('x')
	for range 50000 {
		r.fixed(285).far(0, 0, 0)
	}
	z := r.fixed(256).zlib("")
	wants(t, "much", z, 1000, api.ErrLong, "", 0)
	wants(t, "much", z, 258*50000, api.ErrLong, "", 0)
	wants(t, "much, a wrong sum", z, 258*50000+1, api.ErrZlib, "", 0)
	r = new(row)
	for range 20000 {
		r.block(false, 1).fixed(256)
	}
	z = r.block(true, 1).fixed(256).zlib("")
	wants(t, "many blocks of nothing", z, 0, api.OK, "", len(z))
}

// spare is a slice with room behind it, all of it of one byte.
func spare(b []byte) []byte {
	room := append(slices.Clone(b), bytes.Repeat([]byte{0xa5}, 5000)...)
	return room[:len(b)]
}

// kept wants a slice, and its spare room, to be as spare has made it.
func kept(t *testing.T, name string, b, was []byte) {
	t.Helper()
	if !bytes.Equal(b, was) || bytes.Count(b[len(b):len(b)+5000], []byte{0xa5}) != 5000 {
		t.Errorf("%s: what was handed in is changed", name)
	}
}

func TestMemory(t *testing.T) {
	for _, was := range [][]byte{nil, []byte("some bytes"), bytes.Repeat([]byte("again "), 500), noise(14, 3000)} {
		b := spare(was)
		deflate.Adler(b)
		deflate.CRC(b)
		z := deflate.Deflate(b)
		kept(t, "the sums, Deflate", b, was)
		scribble(deflate.Deflate(b))
		kept(t, "Deflate's answer", b, was)
		in := spare(z)
		out, _, _ := deflate.Inflate(in, len(was))
		kept(t, "Inflate", in, z)
		scribble(in)
		if !bytes.Equal(out, was) {
			t.Errorf("Inflate's answer changes with what was handed in")
		}
		in = spare(z)
		out, _, _ = deflate.Inflate(in, len(was))
		scribble(out)
		kept(t, "Inflate's answer", in, z)
	}
}

// scribble writes over a slice and its spare room.
func scribble(b []byte) {
	for i := range b[:cap(b)] {
		b[:cap(b)][i] ^= 0xff
	}
}
