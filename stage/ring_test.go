package stage

import (
	"strings"
	"testing"

	"gitlike/api"
)

// ring is two trees that name each other, and one that names itself: no bytes have such ids, so that it is made by hand.
func ring() forest {
	in := func(name string, id byte) []api.TreeEntry {
		return []api.TreeEntry{{Mode: api.FileMode, Name: "f"}, {Mode: api.DirMode, Name: name, ID: api.ID{id}}}
	}
	return forest{
		{1}: {entries: in("g", 2)},
		{2}: {entries: in("h", 1)},
		{3}: {entries: in("i", 3)},
	}
}

// TestRingOfTrees: P1, going through files ends when paths get too long.
func TestRingOfTrees(t *testing.T) {
	for id := range byte(4) {
		count, last := 0, ""
		var wrong error
		for e, err := range ring().files(api.ID{id}, "") {
			if err != nil {
				wrong = err
				break
			}
			count, last = count+1, e.Path
		}
		if id == 0 {
			if api.Tell(wrong) != api.ErrMissing || count != 0 {
				t.Errorf("no tree: %d, %v", count, wrong)
			}
			continue
		}
		if api.Tell(wrong) != api.ErrPath || count != 50 || strings.Count(last, "/") != 49 {
			t.Errorf("%d: %d files, the last one %q, %v", id, count, last, wrong)
		}
	}
}

// TestRingOfNames: P1, each tree is gone through once.
func TestRingOfNames(t *testing.T) {
	for id, want := range []int{0, 2, 2, 1} {
		count := 0
		for range ring().namedFirst(api.ID{byte(id)}) {
			count++
		}
		if count != want {
			t.Errorf("%d: %d trees", id, count)
		}
	}
}

// TestIteratorsThatAreLeft: whoever ranges may leave at each place.
func TestIteratorsThatAreLeft(t *testing.T) {
	for most := range 4 {
		count := 0
		for range parts("a/b/c/d/e") {
			if count == most {
				break
			}
			count++
		}
		for range children([]api.Entry{{Path: "a"}, {Path: "b/c"}, {Path: "b/d"}, {Path: "e"}, {Path: "f"}}, 0) {
			if count == 2*most {
				break
			}
			count++
		}
		for range ring().files(api.ID{3}, "") {
			if count == 3*most {
				break
			}
			count++
		}
		if count != 3*most {
			t.Errorf("%d, not %d", count, 3*most)
		}
		for range ring().namedFirst(api.ID{1}) {
			break
		}
	}
}
