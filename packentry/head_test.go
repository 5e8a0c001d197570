package packentry

import (
	"bytes"
	"testing"

	"gitlike/api"
)

// TestDistanceBytes: 5.1, distances that only a very long pack could have.
func TestDistanceBytes(t *testing.T) {
	for n, want := range map[int][]byte{
		1:                {1},
		127:              {0x7f},
		128:              {0x80, 0},
		255:              {0x80, 0x7f},
		16511:            {0xff, 0x7f},
		16512:            {0x80, 0x80, 0},
		2113663:          {0xff, 0xff, 0x7f},
		2113664:          {0x80, 0x80, 0x80, 0},
		MostDistance:     {0xff, 0xff, 0xff, 0x7f},
		MostDistance + 1: {0x80, 0x80, 0x80, 0x80, 0},
	} {
		b := appendDistance(nil, n, 0)
		if !bytes.Equal(b, want) {
			t.Errorf("%d: % x", n, b)
		}
		got, rest, err := readDistance(append(b, 9, 9))
		if n > MostDistance {
			if api.Tell(err) != api.ErrPack || got != 0 {
				t.Errorf("5 bytes: %d, %v", got, err)
			}
		} else if got != n || len(rest) != 2 || err != nil {
			t.Errorf("%d: %d, % x, %v", n, got, rest, err)
		}
	}
}

// TestSizeBytes: 5.1, sizes of all lengths, those above what 5.2 lets be too.
func TestSizeBytes(t *testing.T) {
	for size, want := range map[int][]byte{
		0:           {0x30},
		15:          {0x3f},
		16:          {0xb0, 1},
		1<<11 - 1:   {0xbf, 0x7f},
		1 << 11:     {0xb0, 0x80, 1},
		1<<18 - 1:   {0xbf, 0xff, 0x7f},
		1 << 18:     {0xb0, 0x80, 0x80, 1},
		1 << 25:     {0xb0, 0x80, 0x80, 0x80, 1},
		1<<32 - 1:   {0xbf, 0xff, 0xff, 0xff, 0x7f},
		1 << 32:     {0xb0, 0x80, 0x80, 0x80, 0x80, 1},
		1<<32 + 100: {0xb4, 0x86, 0x80, 0x80, 0x80, 1},
	} {
		b := appendKind(nil, api.Blob, size)
		if !bytes.Equal(b, want) {
			t.Errorf("%d: % x", size, b)
		}
		kind, got, rest, err := readKind(append(b, 9, 9))
		if len(want) > 5 {
			if api.Tell(err) != api.ErrPack || got != 0 {
				t.Errorf("6 bytes: %d, %v", got, err)
			}
		} else if kind != api.Blob || got != size || len(rest) != 2 || err != nil {
			t.Errorf("%d: %v, %d, % x, %v", size, kind, got, rest, err)
		}
	}
}
