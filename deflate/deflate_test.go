package deflate_test

import (
	"bytes"
	"compress/zlib"
	"io"
	"math/rand"
	"strings"
	"testing"

	"gitlike/deflate"
)

// outAgain wants bytes to come out again, to Inflate and to another program, of a stream of at most so many bytes.
func outAgain(t *testing.T, name string, b []byte, most int) {
	t.Helper()
	z := deflate.Deflate(b)
	out, used, err := deflate.Inflate(z, len(b))
	if err != nil || used != len(z) || !bytes.Equal(out, b) {
		t.Errorf("%s, %d bytes: %d bytes, %d of %d used, %v", name, len(b), len(out), used, len(z), err)
	}
	r, err := zlib.NewReader(bytes.NewReader(z))
	if err != nil {
		t.Fatalf("%s, %d bytes, another program: %v", name, len(b), err)
	}
	if out, err = io.ReadAll(r); err != nil || !bytes.Equal(out, b) {
		t.Errorf("%s, %d bytes, another program: %d, %v", name, len(b), len(out), err)
	}
	if most = min(most, anyLimit(b)); len(z) > most {
		t.Errorf("%s, %d bytes: %d, at most %d", name, len(b), len(z), most)
	}
}

// The three limits of 1.7.
func anyLimit(b []byte) int   { return len(b) + 11 + 5*(len(b)/65535+1) }
func sameLimit(b []byte) int  { return 40 + len(b)/80 }
func blockLimit(b []byte) int { return 160 + len(b)/40 }

var sizes = []int{0, 1, 2, 3, 4, 5, 257, 258, 259, 260, 261, 516, 517, 1000, 4096, 32767, 32768, 32769, 65534, 65535, 65536, 65537, 100000, 131070, 131071, 200000}

func TestDeflateAnything(t *testing.T) {
	for _, n := range sizes {
		outAgain(t, "noise", noise(int64(n), n), anyLimit(make([]byte, n)))
	}
	text := strings.Repeat("What was deflated comes out again to the byte. ", 3)
	for n := range len(text) + 1 {
		outAgain(t, "a text", []byte(text[:n]), len(text)+16)
	}
}

// TestDeflateFew has bytes of a few kinds, so that there is much again, near and far.
func TestDeflateFew(t *testing.T) {
	r := rand.New(rand.NewSource(5))
	for _, kinds := range []int{2, 3, 5, 20, 200} {
		for _, n := range []int{10, 300, 5000, 80000} {
			b := make([]byte, n)
			for i := range b {
				b[i] = byte(r.Intn(kinds) * 255 / kinds)
			}
			outAgain(t, "few kinds", b, anyLimit(b))
		}
	}
}

// TestDeflateFar repeats at distances up to the greatest, and beyond it.
func TestDeflateFar(t *testing.T) {
	for _, far := range []int{4095, 4096, 4097, 32767, 32768, 32769, 40000} {
		for _, n := range []int{2, 3, 4, 10, 257, 258, 259, 600} {
			b := noise(6, far)
			outAgain(t, "far", append(b, b[:n]...), anyLimit(b)+n)
		}
	}
	b := noise(7, 32768)
	if z := deflate.Deflate(bytes.Repeat(b, 3)); len(z) > len(b)*6/5 {
		t.Errorf("three times the same 32768 bytes: %d", len(z))
	}
}

func TestDeflateSame(t *testing.T) {
	for _, x := range []byte{0, 7, 143, 144, 255} {
		for n := range 800 {
			b := bytes.Repeat([]byte{x}, n)
			outAgain(t, "the same", b, sameLimit(b))
		}
		for _, n := range sizes {
			b := bytes.Repeat([]byte{x}, n)
			outAgain(t, "the same", b, sameLimit(b))
		}
	}
}

// TestDeflateBlocks has blocks of bytes that take most bits, and of bytes that lead astray: much in them is there again, nearer than the block is.
func TestDeflateBlocks(t *testing.T) {
	high, few := noise(8, 100), noise(9, 100)
	for i := range high {
		high[i] |= 192
		few[i] = 200 + few[i]%2
	}
	odd := bytes.Repeat([]byte{255}, 100)
	odd[50] = 254
	for _, block := range [][]byte{noise(10, 100), high, few, odd, bytes.Repeat([]byte("aab"), 33)} {
		for k := 1; k <= len(block); k++ {
			for _, n := range []int{k, 2 * k, 400, 5000} {
				b := bytes.Repeat(block[:k], n/k+1)
				outAgain(t, "a block", b[:n], blockLimit(b[:n]))
				outAgain(t, "a block", b[:n/k*k], blockLimit(b[:n/k*k]))
			}
		}
		b := bytes.Repeat(block, 2000)
		outAgain(t, "a block", b, blockLimit(b))
	}
}
