package delta_test

import (
	"bytes"
	"testing"

	"gitlike/delta"
)

// roomy is bytes with spare room behind them.
func roomy(b []byte) []byte {
	return append(bytes.Clone(b), bytes.Repeat([]byte{0xa5}, 300)...)[:len(b)]
}

// isAsItWas wants bytes, and the room behind them, to be as roomy made them.
func isAsItWas(t *testing.T, b, was []byte) {
	t.Helper()
	if !bytes.Equal(b, was) || bytes.Count(b[len(b):len(b)+300], []byte{0xa5}) != 300 {
		t.Errorf("%q is changed", was)
	}
}

// TestMemory scribbles over what was handed in, and over what was answered.
func TestMemory(t *testing.T) {
	was := [][]byte{[]byte("0123456789"), {10, 10, 0x90, 10}, {10, 4, 4, 'a', 'b', 'c', 'd'}, []byte("some 0123456789")}
	base, copied, own, target := roomy(was[0]), roomy(was[1]), roomy(was[2]), roomy(was[3])
	one, _ := delta.Apply(base, copied)
	two, _ := delta.Apply(base, own)
	d := delta.Make(base, target)
	again := delta.Make(base, target)
	for i, b := range [][]byte{base, copied, own, target} {
		isAsItWas(t, b, was[i])
		clear(b[:cap(b)])
	}
	if string(one) != "0123456789" || string(two) != "abcd" || !bytes.Equal(d, again) {
		t.Errorf("%q, %q, % x, % x", one, two, d, again)
	}
	clear(again[:cap(again)])
	if out, err := delta.Apply(was[0], d); err != nil || string(out) != "some 0123456789" {
		t.Errorf("%q, %v", out, err)
	}
}
