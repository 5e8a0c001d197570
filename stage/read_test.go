package stage_test

import (
	"bytes"
	"encoding/binary"
	"math/rand"
	"slices"
	"testing"

	"gitlike/api"
	"gitlike/stage"
)

// some is entries in order: of all modes, of all stages, of many lengths.
func some() []api.Entry {
	return inOrder(append(all("a/b", "a.b", "a/c/d", "c", "d/ee", "d/fff/gggg", hundred, deepest), of("m", 1), of("m", 2), of("m", 3), of("n/o", 1), of("n/o", 3)))
}

// unread wants bytes to be no index.
func unread(t *testing.T, name string, b []byte) {
	t.Helper()
	if l, err := stage.Read(b); len(l) != 0 || api.Tell(err) != api.ErrStage {
		t.Errorf("%s: %d entries, %v", name, len(l), err)
	}
}

// TestRead: 8.3, what was written is read.
func TestRead(t *testing.T) {
	for _, l := range [][]api.Entry{nil, all("a"), all("a", "b"), some(), some()[3:9]} {
		got, err := stage.Read(written(t, l))
		if err != nil || !slices.Equal(got, l) {
			t.Errorf("%v, %v, not %v", got, err, l)
		}
	}
	e := api.Entry{Path: "a", Mode: file, Size: api.MaxBlob, ID: api.ID(bytes.Repeat([]byte{0xff}, 20)), Stage: 3}
	if l, err := stage.Read(summed(body(e))); err != nil || len(l) != 1 || l[0] != e {
		t.Errorf("%v, %v", l, err)
	}
}

// TestBytesThatAreChanged: 8.3, each byte, and each bit of some.
func TestBytesThatAreChanged(t *testing.T) {
	b := written(t, some())
	for i := range b {
		for _, x := range []byte{1, 16, 128, 255} {
			b[i] ^= x
			unread(t, "a byte changed", b)
			b[i] ^= x
		}
	}
	if _, err := stage.Read(b); err != nil {
		t.Error(err)
	}
}

// TestBytesThatAreChangedBelowTheSum: 8.3, each byte changed, with a right sum. A change is read, if it makes entries that are right; and then just these bytes are written for them.
func TestBytesThatAreChangedBelowTheSum(t *testing.T) {
	front := body(some()...)
	read := 0
	for i := range front {
		for bit := range 8 {
			front[i] ^= 1 << bit
			b := summed(front)
			front[i] ^= 1 << bit
			l, err := stage.Read(b)
			if err != nil {
				unread(t, "a bit changed", b)
				continue
			}
			read++
			if !bytes.Equal(b, summed(body(l...))) || !bytes.Equal(b, written(t, l)) {
				t.Fatalf("byte %d, bit %d: read as %v", i, bit, l)
			}
		}
	}
	if read < 20*8*len(some()) { // each bit of each id may be changed
		t.Errorf("%d are read", read)
	}
}

// TestZerosThatAreNone: 8.3, each byte that must be 0, with a right sum.
func TestZerosThatAreNone(t *testing.T) {
	for _, path := range []string{"a", "ab", "abc", "abcd", "abcde", "abcdef", "abcdefg", "abcdefgh"} {
		front := body(of(path, 0))
		for i := range front[12:] {
			at := 12 + i
			if i >= 24 && i < 28 || i >= 36 && i < 62+len(path) {
				continue
			}
			for _, x := range []byte{1, 'x', 0xff} {
				front[at] = x
				unread(t, "a 0 that is none", summed(front))
			}
			front[at] = 0
		}
		if _, err := stage.Read(summed(front)); err != nil {
			t.Error(err)
		}
		for n := 1; n <= 16; n++ {
			if _, err := stage.Read(summed(front[:len(front)-n])); api.Tell(err) != api.ErrStage {
				t.Errorf("%d bytes less: %v", n, err)
			}
			unread(t, "more zeros", summed(append(slices.Clone(front), make([]byte, n)...)))
		}
	}
}

// TestBytesThatAreCut: 8.3, an index cut short, with and without a right sum, and with bytes behind it.
func TestBytesThatAreCut(t *testing.T) {
	b := written(t, some())
	for n := range b {
		unread(t, "cut short", b[:n])
		unread(t, "cut in front", b[n+1:])
	}
	front := body(some()...)
	for n := range front {
		unread(t, "cut short, with a sum", summed(front[:n]))
	}
	for _, s := range []string{"\x00", "x", string(b), string(make([]byte, 8)), string(make([]byte, 64)), string(raw(of("z", 0)))} {
		unread(t, "bytes behind", append(slices.Clone(b), s...))
		unread(t, "bytes behind, with a sum", summed(append(slices.Clone(front), s...)))
		unread(t, "bytes in front", append([]byte(s), b...))
	}
	unread(t, "nothing", nil)
	unread(t, "nothing", []byte{})
	unread(t, "a sum of nothing", summed(nil))
}

// TestHeads: 8.3, other words, numbers and counts, with a right sum.
func TestHeads(t *testing.T) {
	for _, head := range []string{"DIRC\x00\x00\x00\x03", "DIRC\x00\x00\x00\x01", "DIRC\x02\x00\x00\x00", "DIRC\x00\x00\x00\x00", "DIRD\x00\x00\x00\x02", "dirc\x00\x00\x00\x02", "PACK\x00\x00\x00\x02"} {
		for _, l := range [][]api.Entry{nil, some()} {
			b := body(l...)
			copy(b, head)
			unread(t, head, summed(b))
		}
	}
	for _, l := range [][]api.Entry{nil, all("a"), some()} {
		for _, n := range []uint32{0, 1, 2, uint32(len(l)) - 1, uint32(len(l)) + 1, uint32(len(l)) << 8, uint32(len(l)) << 24, 1 << 31, 1<<32 - 1} {
			b := body(l...)
			binary.BigEndian.PutUint32(b[8:], n)
			if n != uint32(len(l)) {
				unread(t, "a count", summed(b))
			}
		}
	}
}

// TestEntriesThatAreNotRight: 8.3, whatever is wrong with them, it is ErrStage.
func TestEntriesThatAreNotRight(t *testing.T) {
	wrong := func(name string, l ...api.Entry) {
		t.Helper()
		unread(t, name, summed(body(l...)))
	}
	wrong("out of order", all("b", "a")...)
	wrong("out of order", all("a", "a0", "a.b")...)
	wrong("directories out of order", all("a/b", "a.b")...)
	wrong("stages out of order", of("a", 2), of("a", 1))
	wrong("by stages first", of("b", 1), of("a", 2))
	wrong("twice", all("a", "a")...)
	wrong("a stage twice", of("a", 1), of("a", 1))
	wrong("the stage 0 and another", of("a", 0), of("a", 1))
	wrong("a directory", all("a", "a/b")...)
	wrong("a directory", all("a", "a.b", "a/b")...)
	for _, s := range append([]string{hundred + "n", tooLong, "/a", "a/", "a//b", string(make([]byte, 4000)), "a/.git"}, noParts...) {
		wrong("no path", of(s, 0))
	}
	for _, m := range []api.Mode{0, dir, 0o160000, 0o644, 0o100664, 1<<32 - 1} {
		wrong("a mode", api.Entry{Path: "a", Mode: m})
	}
	for _, n := range []int{api.MaxBlob + 1, 1 << 31, 1<<32 - 1} {
		wrong("a size", api.Entry{Path: "a", Mode: file, Size: n})
	}
	for n := 4; n < 16; n++ {
		wrong("a stage", of("a", n))
	}
	wrong("too many", many(api.MaxEntries+1)...)
	if l, err := stage.Read(summed(body(many(api.MaxEntries)...))); err != nil || len(l) != api.MaxEntries {
		t.Errorf("%d, %v", len(l), err)
	}
}

// TestLengthsThatAreNotSo: 8.3, entries that tell another length of their path.
func TestLengthsThatAreNotSo(t *testing.T) {
	for _, l := range [][]api.Entry{all("abc"), all("abc", "abd"), all("abcdefgh", "b", "c")} {
		front := body(l...)
		at := 12 + 60
		was := binary.BigEndian.Uint16(front[at:])
		for n := range uint16(4096) {
			binary.BigEndian.PutUint16(front[at:], n)
			if n != was {
				unread(t, "a length", summed(front))
			}
		}
	}
}

// TestReadNoise: P1, bytes that are nothing, with and without a head and a sum.
func TestReadNoise(t *testing.T) {
	r := rand.New(rand.NewSource(88))
	for range 3000 {
		b := make([]byte, 1+r.Intn(300))
		r.Read(b)
		unread(t, "noise", b)
		unread(t, "noise with a sum", summed(b))
		unread(t, "noise with a head", summed(append(body(), b...)))
	}
	unread(t, "very many zeros", make([]byte, 1<<22))
	unread(t, "very many zeros with a head", summed(append(body(), make([]byte, 1<<22)...)))
	unread(t, "very many entries", summed(append(body(), bytes.Repeat(raw(of("a", 0)), 50000)...)))
}
