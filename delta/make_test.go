package delta_test

import (
	"bytes"
	"math/rand"
	"testing"

	"gitlike/api"
	"gitlike/delta"
)

// noise is bytes of so many kinds, in no order.
func noise(r *rand.Rand, n, kinds int) []byte {
	b := make([]byte, n)
	for i := range b {
		b[i] = byte(r.Intn(kinds))
	}
	return b
}

// makes wants Make's delta to make the target, to tell both sizes, and to have at most so many bytes, and at most as many as any may have.
func makes(t *testing.T, name string, base, target []byte, most int) {
	t.Helper()
	d := delta.Make(base, target)
	if out, err := delta.Apply(base, d); err != nil || !bytes.Equal(out, target) {
		t.Errorf("%s: %d bytes for %d, %v", name, len(out), len(target), err)
	}
	if a, b, err := delta.Sizes(d); a != len(base) || b != len(target) || err != nil {
		t.Errorf("%s: sizes %d, %d, %v", name, a, b, err)
	}
	if most = min(most, ofAny(target)); len(d) > most {
		t.Errorf("%s: a delta of %d bytes, at most %d", name, len(d), most)
	}
}

// ofAny is how long a delta of any target may be.
func ofAny(target []byte) int { return len(target) + len(target)/100 + 20 }

// ofPieces is how long a delta of so many pieces and so many other bytes may be.
func ofPieces(pieces, others int) int { return 20 + 16*pieces + 2*others }

// TestMakeOfEnds: 4.4, what is empty, and what is as long as may be.
func TestMakeOfEnds(t *testing.T) {
	r := rand.New(rand.NewSource(1))
	long := noise(r, api.MaxBlob+1, 256)
	most := long[:api.MaxBlob]
	some := []byte("some bytes")
	makes(t, "nothing of nothing", nil, nil, 20)
	makes(t, "nothing of some", some, nil, 20)
	makes(t, "nothing of most", most, []byte{}, 20)
	makes(t, "some of nothing", nil, some, 30)
	makes(t, "most of nothing", nil, most, ofAny(most))
	makes(t, "some of most", most, some, 30)
	makes(t, "most of some", some, most, ofAny(most))
	makes(t, "one byte", nil, some[:1], 21)
	makes(t, "most of most", most, long[1:], 60)
	for name, d := range map[string][]byte{
		"a base that is too long":   delta.Make(long, nil),
		"a target that is too long": delta.Make(nil, long),
		"both":                      delta.Make(long, long),
		"one of them":               delta.Make(most, long),
		"the other one":             delta.Make(long, most),
	} {
		if d != nil {
			t.Errorf("%s: %d bytes", name, len(d))
		}
	}
}

// TestMakeOfItself: 4.4, a target that is the base: one piece.
func TestMakeOfItself(t *testing.T) {
	r := rand.New(rand.NewSource(2))
	for _, n := range []int{1, 2, 31, 32, 255, 256, 1000, 20000, 65535, 65536, 65537, api.MaxBlob} {
		for _, kinds := range []int{1, 2, 256} {
			base := noise(r, n, kinds)
			makes(t, "itself", base, base, ofPieces(1, 0))
		}
	}
}

// TestMakeOfNothingOfIt: 4.4, a target that has nothing of the base, of all lengths up to where own bytes fill a few steps.
func TestMakeOfNothingOfIt(t *testing.T) {
	r := rand.New(rand.NewSource(3))
	base := bytes.Repeat([]byte{255}, 1000)
	for n := range 600 {
		makes(t, "nothing of it", base, noise(r, n, 255), 1<<30)
	}
	for _, n := range []int{20000, 65536, api.MaxBlob} {
		makes(t, "nothing of it", noise(r, n, 256), noise(r, n, 256), 1<<30)
	}
}

// TestMakeOfShortPieces: 4.4, pieces that are so short that copies of them hardly pay, at places that take many bytes to tell: a delta is no longer than any may be.
func TestMakeOfShortPieces(t *testing.T) {
	r := rand.New(rand.NewSource(4))
	for _, n := range []int{300, 20000, 65536, api.MaxBlob} {
		base := noise(r, n, 256)
		for most := 2; most < 12; most++ {
			for _, between := range []int{0, 1, 3} {
				var target []byte
				for len(target) < 50000 {
					from := n - 1 - r.Intn(n/2)
					target = append(target, base[from:min(n, from+1+r.Intn(most))]...)
					target = append(target, noise(r, between, 256)...)
				}
				makes(t, "short pieces", base, target, 1<<30)
			}
		}
	}
}

// TestMakeOfPieces: 4.4, pieces of 32 bytes, in another order, some of them again, some left out, with bytes ahead, between and behind.
func TestMakeOfPieces(t *testing.T) {
	r := rand.New(rand.NewSource(5))
	for _, n := range []int{32, 33, 100, 3000, 20000} {
		base := noise(r, n, 256)
		for _, between := range []int{0, 1, 2, 50} {
			target := noise(r, between, 256)
			pieces, others := 0, between
			for len(target) < 60000 {
				from := r.Intn(n - 31)
				target = append(target, base[from:from+32]...)
				target = append(target, noise(r, between, 256)...)
				pieces++
				others += between
			}
			makes(t, "pieces", base, target, ofPieces(pieces, others))
		}
	}
}

// TestMakeWhereAllIsAlike: 4.4, bases of so few kinds of bytes that each piece is there often, and goes on in many ways: by chance, what follows it in the target goes on as what follows it in the base.
func TestMakeWhereAllIsAlike(t *testing.T) {
	r := rand.New(rand.NewSource(6))
	for range 400 {
		n := 32 + r.Intn(3000)
		kinds := 1 + r.Intn(4)
		base := noise(r, n, kinds)
		if r.Intn(3) == 0 {
			base = bytes.Repeat(base[:1+r.Intn(40)], n)[:n]
			base[r.Intn(n)] ^= 1
		}
		var target []byte
		pieces, others := 0, 0
		for len(target) < 5000 {
			from := r.Intn(n - 31)
			length := 32 + r.Intn(min(n-from-31, 1+r.Intn(40)))
			more := max(0, r.Intn(6)-2)
			target = append(target, base[from:from+length]...)
			target = append(target, noise(r, more, kinds+1)...)
			pieces++
			others += more
		}
		makes(t, "alike", base, target, ofPieces(pieces, others))
	}
}

// fork is a base in which each piece of so many bytes is there once, and ahead of that its beginning, of so many bytes, and the rest of it, with other bytes around them: whoever takes the first place that is found, or looks at some places alone, gets pieces in parts.
func fork(r *rand.Rand, pieces, length, kept int) (base []byte, where []int) {
	for range pieces {
		piece := noise(r, length, 256)
		base = join(base, noise(r, 3, 256), piece[:kept], noise(r, 3, 256), piece[kept:], noise(r, 3, 256))
		where = append(where, len(base))
		base = append(base, piece...)
	}
	return base, where
}

// TestMakeWherePiecesAreThereInParts: 4.4, see fork. Ahead of each piece there is what stands ahead of its beginning in the base, so that a copy from there on leads into the piece, and ends within it.
func TestMakeWherePiecesAreThereInParts(t *testing.T) {
	r := rand.New(rand.NewSource(7))
	for _, length := range []int{32, 45, 63, 80} {
		for kept := 1; kept < length; kept += 3 {
			base, where := fork(r, 100, length, kept)
			for more := range 4 {
				var target []byte
				for _, i := range r.Perm(len(where)) {
					ahead := where[i] - 3 - (length - kept) - 3 - kept
					target = append(target, base[ahead-more:ahead]...)
					target = append(target, base[where[i]:where[i]+length]...)
				}
				makes(t, "in parts", base, target, ofPieces(len(where), more*len(where)))
			}
		}
	}
}

// TestMakeOfAChange: a base of which a byte is another one, is gone, or is there twice: two pieces.
func TestMakeOfAChange(t *testing.T) {
	r := rand.New(rand.NewSource(8))
	for _, n := range []int{64, 1000, 20000} {
		base := noise(r, n, 256)
		for range 20 {
			at := min(32+r.Intn(n-63), n-33)
			makes(t, "another one", base, join(base[:at], []byte{base[at] + 1}, base[at+1:]), ofPieces(2, 1))
			makes(t, "gone", base, join(base[:at], base[at+1:]), ofPieces(2, 0))
			makes(t, "twice", base, join(base[:at], base[at:at+1], base[at:]), ofPieces(2, 1))
		}
	}
}

// TestMakeOfAny: whatever is given, Apply makes the target again.
func TestMakeOfAny(t *testing.T) {
	r := rand.New(rand.NewSource(9))
	for range 20000 {
		kinds := 1 + r.Intn(4)
		makes(t, "any", noise(r, r.Intn(60), kinds), noise(r, r.Intn(200), kinds), 1<<30)
	}
}

// TestMakeIsTheSame: the same answer, whenever it is asked for.
func TestMakeIsTheSame(t *testing.T) {
	r := rand.New(rand.NewSource(10))
	base, target := noise(r, 3000, 3), noise(r, 3000, 3)
	first := delta.Make(base, target)
	for range 10 {
		if !bytes.Equal(delta.Make(base, target), first) {
			t.Fatal("another delta")
		}
	}
}
