package idwalk_test

import (
	"errors"
	"maps"
	"slices"
	"testing"

	"gitlike/api"
	"gitlike/idwalk"
)

func id(n int) api.ID { return api.ID{byte(n >> 16), byte(n >> 8), byte(n)} }

// TestThrough: an id, then what it names, each with all below it, none twice.
func TestThrough(t *testing.T) {
	named := map[api.ID][]api.ID{id(1): {id(2), id(3)}, id(2): {id(4), id(3)}, id(3): {id(5)}, id(5): {id(4), id(6)}, id(7): {id(1)}, id(8): {id(8), id(7)}}
	var order []api.ID
	names := func(x api.ID) ([]api.ID, error) {
		order = append(order, x)
		return named[x], nil
	}
	met, err := idwalk.Through(names, id(7), id(9), id(2), id(8), id(9))
	want := []api.ID{id(7), id(1), id(2), id(4), id(3), id(5), id(6), id(9), id(8)}
	if err != nil || !slices.Equal(order, want) || len(met) != len(want) {
		t.Errorf("%v, %v", order, err)
	}
	for _, x := range want {
		if _, there := met[x]; !there {
			t.Errorf("%v is not met", x)
		}
	}
	if met, err := idwalk.Through(names); len(met) > 0 || err != nil {
		t.Errorf("from nowhere: %v, %v", met, err)
	}
}

// TestThroughError: the first error ends it.
func TestThroughError(t *testing.T) {
	named := map[api.ID][]api.ID{id(1): {id(2), id(3)}, id(2): {id(4)}}
	wrong := map[api.ID]error{id(3): errors.New("3"), id(4): errors.New("4"), id(9): errors.New("9")}
	var order []api.ID
	names := func(x api.ID) ([]api.ID, error) {
		order = append(order, x)
		return named[x], wrong[x]
	}
	for _, c := range []struct {
		from []api.ID
		want error
	}{
		{[]api.ID{id(1), id(9)}, wrong[id(4)]}, {[]api.ID{id(9), id(1)}, wrong[id(9)]}, {[]api.ID{id(8), id(3)}, wrong[id(3)]}, {[]api.ID{id(8)}, nil},
	} {
		order = nil
		met, err := idwalk.Through(names, c.from...)
		if err != c.want || err != nil && (met != nil || wrong[order[len(order)-1]] != err) {
			t.Errorf("%v: %v, %v behind %v", c.from, met, err, order)
		}
	}
}

// TestThroughLong: a very long row; and what is handed in, and what is named, stays as it was.
func TestThroughLong(t *testing.T) {
	const n = 300000
	named := map[api.ID][]api.ID{}
	for i := range n {
		named[id(i)] = []api.ID{id(i + 1), id(i / 2), id(7)}
	}
	was := maps.Clone(named)
	from := []api.ID{id(5), id(0), id(3)}
	met, err := idwalk.Through(func(x api.ID) ([]api.ID, error) { return named[x], nil }, from...)
	if err != nil || len(met) != n+1 || !slices.Equal(from, []api.ID{id(5), id(0), id(3)}) {
		t.Errorf("%d, %v, %v", len(met), err, from)
	}
	for i := range n {
		if l := named[id(i)]; l[0] != id(i+1) || l[1] != id(i/2) || &l[0] != &was[id(i)][0] {
			t.Fatalf("%d: %v", i, l)
		}
	}
}
