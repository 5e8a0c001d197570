package digest

import (
	"bytes"
	"testing"
)

// TestEnd has more bytes than a test could add: how many bits there are takes more than 32 bits.
func TestEnd(t *testing.T) {
	for size, want := range map[uint64][]byte{
		0:           {0, 0, 0, 0, 0, 0, 0, 0},
		31:          {0, 0, 0, 0, 0, 0, 0, 248},
		32:          {0, 0, 0, 0, 0, 0, 1, 0},
		1<<29 - 1:   {0, 0, 0, 0, 255, 255, 255, 248},
		1 << 29:     {0, 0, 0, 1, 0, 0, 0, 0},
		1<<60 + 100: {128, 0, 0, 0, 0, 0, 3, 32},
	} {
		b := end(size)
		zeros := b[1 : len(b)-8]
		if b[0] != 128 || bytes.Count(zeros, []byte{0}) != len(zeros) || len(zeros) > 63 || (size+uint64(len(b)))%64 != 0 || !bytes.Equal(b[len(b)-8:], want) {
			t.Errorf("behind %d bytes: %x", size, b)
		}
	}
}
