package idorder_test

import (
	"slices"
	"testing"

	"gitlike/api"
	"gitlike/idorder"
)

// rising is ids in order: the first byte counts before the last one, and a byte from 128 on is not below 0.
func rising() []api.ID {
	return []api.ID{{}, {19: 1}, {19: 0xff}, {18: 1}, {1}, {1, 19: 1}, {1, 1}, {0x7f}, {0x80}, {0xff}}
}

// TestCompare holds each id against each.
func TestCompare(t *testing.T) {
	for i, x := range rising() {
		for k, y := range rising() {
			c := idorder.Compare(x, y)
			if (c < 0) != (i < k) || (c > 0) != (i > k) {
				t.Errorf("%x, %x: %d", x, y, c)
			}
		}
	}
}

// TestSorted: a set, an empty one, and none.
func TestSorted(t *testing.T) {
	set := map[api.ID]struct{}{}
	for _, id := range rising() {
		set[id] = struct{}{}
	}
	if got := idorder.Sorted(set); !slices.Equal(got, rising()) || len(set) != len(got) {
		t.Errorf("%x", got)
	}
	if got := append(idorder.Sorted(nil), idorder.Sorted(map[api.ID]struct{}{})...); len(got) != 0 {
		t.Errorf("of nothing: %x", got)
	}
}
