package delta

import (
	"bytes"
	"math/rand"
	"testing"
)

// TestFind holds the finder against a search at every length: that it finds the longest is what the length of a delta rests on.
func TestFind(t *testing.T) {
	r := rand.New(rand.NewSource(1))
	for range 3000 {
		kinds := 1 + r.Intn(4)
		base := make([]byte, r.Intn(80))
		for i := range base {
			base[i] = byte(r.Intn(kinds))
		}
		f := newFinder(base)
		for range 10 {
			b := make([]byte, r.Intn(20))
			for i := range b {
				b[i] = byte(r.Intn(kinds + r.Intn(2)))
			}
			n := 0
			for n < len(b) && bytes.Contains(base, b[:n+1]) {
				n++
			}
			if from, length := f.find(b); length != n || !bytes.Equal(base[from:from+length], b[:n]) {
				t.Fatalf("% x in % x: %d bytes from %d on, not %d", b, base, length, from, n)
			}
		}
	}
}
