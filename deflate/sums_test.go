package deflate_test

import (
	"bytes"
	"hash/adler32"
	"hash/crc32"
	"testing"

	"gitlike/deflate"
)

func TestSumsOfNothing(t *testing.T) {
	for _, b := range [][]byte{nil, {}} {
		if n := deflate.Adler(b); n != 1 {
			t.Errorf("Adler of nothing: %x", n)
		}
		if n := deflate.CRC(b); n != 0 {
			t.Errorf("CRC of nothing: %x", n)
		}
	}
}

func TestSumsThatAreKnown(t *testing.T) {
	for _, c := range []struct {
		text       string
		adler, crc uint32
	}{
		{"a", 0x00620062, 0xe8b7be43},
		{"\x00", 0x00010001, 0xd202ef8d},
		{"\xff", 0x01000100, 0xff000000},
		{"123456789", 0x091e01de, 0xcbf43926},
	} {
		if a, k := deflate.Adler([]byte(c.text)), deflate.CRC([]byte(c.text)); a != c.adler || k != c.crc {
			t.Errorf("%q: %x and %x", c.text, a, k)
		}
	}
}

// TestSumsOfMany goes where both numbers of Adler come up to 65521, and past it.
func TestSumsOfMany(t *testing.T) {
	high := bytes.Repeat([]byte{255}, 300000)
	for _, n := range []int{2, 15, 16, 256, 257, 258, 5552, 5553, 65520, 65521, 65522, 300000} {
		for _, b := range [][]byte{high[:n], make([]byte, n), noise(int64(n), n)} {
			if deflate.Adler(b) != adler32.Checksum(b) {
				t.Errorf("Adler of %d bytes", n)
			}
			if deflate.CRC(b) != crc32.ChecksumIEEE(b) {
				t.Errorf("CRC of %d bytes", n)
			}
		}
	}
	for x := range 256 {
		if b := []byte{byte(x)}; deflate.CRC(b) != crc32.ChecksumIEEE(b) {
			t.Errorf("CRC of %d", x)
		}
	}
}
