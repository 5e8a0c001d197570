package digest_test

import (
	"bytes"
	"crypto/sha1"
	"math/rand"
	"slices"
	"strings"
	"testing"

	"gitlike/api"
	"gitlike/digest"
)

// noise makes bytes, always the same for one seed.
func noise(seed int64, n int) []byte {
	b := make([]byte, n)
	rand.New(rand.NewSource(seed)).Read(b)
	return b
}

// edges are lengths where a block is just full, or where its end takes one block more.
func edges() []int {
	return []int{0, 1, 54, 55, 56, 57, 62, 63, 64, 65, 118, 119, 120, 121, 127, 128, 129, 183, 184, 191, 192, 193, 4095, 4096, 4097}
}

// TestSumsThatAreKnown has sums of letters a that were told by another program.
func TestSumsThatAreKnown(t *testing.T) {
	for n, want := range map[int]string{
		0:       "da39a3ee5e6b4b0d3255bfef95601890afd80709",
		1:       "86f7e437faa5a7fce15d1ddcb9eaeaea377667b8",
		55:      "c1c8bbdc22796e28c0e15163d20899b65621d65a",
		56:      "c2db330f6083854c99d4b5bfb6e8f29f201be699",
		63:      "03f09f5b158a7a8cdad920bddc29b81c18a551f5",
		64:      "0098ba824b5c16427bd7a1122a5a442a25ec644d",
		65:      "11655326c708d70319be2610e8a57d9a5b959d3b",
		119:     "ee971065aaa017e0632a8ca6c77bb3bf8b1dfc56",
		120:     "f34c1488385346a55709ba056ddd08280dd4c6d6",
		1000000: "34aa973cd4c4daa4f61eeb2bdbad27316534016f",
	} {
		if got := digest.Hex(digest.Sum(bytes.Repeat([]byte("a"), n))); got != want {
			t.Errorf("%d letters: %s, not %s", n, got, want)
		}
	}
}

func TestSumOfNothing(t *testing.T) {
	want, _ := digest.Parse("da39a3ee5e6b4b0d3255bfef95601890afd80709")
	d := digest.New()
	if digest.Sum(nil) != want || digest.Sum([]byte{}) != want || d.Sum() != want {
		t.Error("the sum of nothing")
	}
	d.Add(nil)
	d.Add([]byte{})
	if d.Sum() != want {
		t.Error("the sum of nothing, added")
	}
}

func TestSumOfIds(t *testing.T) {
	for text, want := range map[string]string{
		"blob 0\x00": "e69de29bb2d1d6434b8b29ae775ad8c2e48c5391",
		"tree 0\x00": "4b825dc642cb6eb9a060e54bf8d69288fbee4904",
	} {
		if got := digest.Hex(digest.Sum([]byte(text))); got != want {
			t.Errorf("%q: %s", text, got)
		}
	}
}

// TestSumOfEachLength goes through all lengths of four blocks, with bytes of all kinds.
func TestSumOfEachLength(t *testing.T) {
	for n := range 260 {
		for _, b := range [][]byte{noise(int64(n), n), make([]byte, n), bytes.Repeat([]byte{0xff}, n)} {
			if digest.Sum(b) != sha1.Sum(b) {
				t.Errorf("%d bytes %x", n, b)
			}
		}
	}
}

// TestSumOfParts cuts bytes in two, at the edges of blocks, and asks for the sum between.
func TestSumOfParts(t *testing.T) {
	all := noise(1, 9000)
	for _, first := range edges() {
		for _, second := range edges() {
			for _, asked := range []bool{false, true} {
				d := digest.New()
				d.Add(all[:first])
				if asked && d.Sum() != sha1.Sum(all[:first]) {
					t.Fatalf("%d bytes", first)
				}
				d.Add(all[first : first+second])
				if d.Sum() != sha1.Sum(all[:first+second]) {
					t.Fatalf("%d bytes and %d, asked between: %v", first, second, asked)
				}
			}
		}
	}
}

func TestSumIsAskedAgain(t *testing.T) {
	r := rand.New(rand.NewSource(2))
	all := noise(3, 20000)
	d := digest.New()
	for at := 0; at < len(all); {
		n := min(r.Intn(200), len(all)-at)
		d.Add(all[at : at+n])
		at += n
		for range r.Intn(3) {
			if d.Sum() != sha1.Sum(all[:at]) {
				t.Fatalf("behind %d bytes", at)
			}
		}
	}
	if d.Sum() != sha1.Sum(all) {
		t.Error("all of them")
	}
}

func TestSumOfOneByteAtATime(t *testing.T) {
	all := noise(4, 200)
	d := digest.New()
	for i := range all {
		d.Add(all[i : i+1])
		if d.Sum() != sha1.Sum(all[:i+1]) {
			t.Fatalf("behind %d bytes", i+1)
		}
	}
}

// TestTwoDigests adds to both by turns.
func TestTwoDigests(t *testing.T) {
	one, two := digest.New(), digest.New()
	a, b := noise(5, 3000), noise(6, 3000)
	for i := 0; i < 3000; i += 30 {
		one.Add(a[i : i+30])
		two.Add(b[i : i+30])
		if one.Sum() != sha1.Sum(a[:i+30]) || two.Sum() != sha1.Sum(b[:i+30]) {
			t.Fatalf("behind %d bytes", i+30)
		}
		digest.Sum(a[:i])
	}
	if digest.New().Sum() != sha1.Sum(nil) {
		t.Error("a new one does not begin with nothing")
	}
}

func TestMemory(t *testing.T) {
	for _, n := range edges() {
		was := noise(7, n)
		room := append(slices.Clone(was), bytes.Repeat([]byte{0xa5}, 300)...)
		d := digest.New()
		d.Add(room[:n])
		d.Sum()
		digest.Sum(room[:n])
		if !bytes.Equal(room[:n], was) || bytes.Count(room[n:], []byte{0xa5}) != 300 {
			t.Fatalf("%d bytes: what was handed in is changed", n)
		}
		clear(room)
		if d.Sum() != sha1.Sum(was) {
			t.Fatalf("%d bytes: what was handed in is kept", n)
		}
	}
}

func TestHexOfIds(t *testing.T) {
	var rising api.ID
	for i := range rising {
		rising[i] = byte(13 * i)
	}
	for text, id := range map[string]api.ID{
		strings.Repeat("0", 40):                    {},
		"0123456789abcdef000000000000000000000000": {0x01, 0x23, 0x45, 0x67, 0x89, 0xab, 0xcd, 0xef},
		"00000000000000000000000000000000000000f0": {19: 0xf0},
		"000d1a2734414e5b6875828f9ca9b6c3d0ddeaf7": rising,
		strings.Repeat("f", 40):                    api.ID(bytes.Repeat([]byte{0xff}, 20)),
	} {
		if got := digest.Hex(id); got != text {
			t.Errorf("Hex of %v: %s", id, got)
		}
		if got, err := digest.Parse(text); got != id || err != nil {
			t.Errorf("Parse of %s: %v, %v", text, got, err)
		}
	}
}

// TestHexOfEachByte has each byte at each place of an id.
func TestHexOfEachByte(t *testing.T) {
	for at := range 20 {
		for x := range 256 {
			id := digest.Sum([]byte{byte(at)})
			id[at] = byte(x)
			if got, err := digest.Parse(digest.Hex(id)); got != id || err != nil {
				t.Fatalf("%v: %v, %v", id, got, err)
			}
		}
	}
}

// wrong wants a text to be none of an id.
func wrong(t *testing.T, s string) {
	t.Helper()
	if id, err := digest.Parse(s); id != (api.ID{}) || api.Tell(err) != api.ErrHex {
		t.Errorf("Parse of %q: %v, %v", s, id, err)
	}
}

func TestParseOfOtherLengths(t *testing.T) {
	for n := range 130 {
		if n != 40 {
			wrong(t, strings.Repeat("a", n))
		}
	}
	right := digest.Hex(digest.Sum(nil))
	wrong(t, right[1:])
	wrong(t, right[:39])
	wrong(t, right+"0")
	wrong(t, right+"\n")
	wrong(t, " "+right)
	wrong(t, right+right)
}

// TestParseOfOtherSigns has each byte that is no digit at each place.
func TestParseOfOtherSigns(t *testing.T) {
	right := digest.Hex(digest.Sum(nil))
	for at := range right {
		for x := range 256 {
			s := right[:at] + string([]byte{byte(x)}) + right[at+1:]
			if x >= '0' && x <= '9' || x >= 'a' && x <= 'f' {
				if id, err := digest.Parse(s); digest.Hex(id) != s || err != nil {
					t.Fatalf("%q: %v, %v", s, id, err)
				}
				continue
			}
			wrong(t, s)
		}
	}
}

func TestParseOfOtherTexts(t *testing.T) {
	right := digest.Hex(digest.Sum(nil))
	wrong(t, strings.ToUpper(right))
	wrong(t, strings.Repeat("A", 40))
	wrong(t, strings.Repeat("g", 40))
	wrong(t, "0x"+right[2:])
	wrong(t, "-"+right[1:])
	wrong(t, strings.Repeat("é", 20))
	wrong(t, strings.Repeat("é", 40))
	wrong(t, "\u0661"+right[2:])
	wrong(t, right[:39]+"\u00e1")
	wrong(t, strings.Repeat("\x00", 40))
}
