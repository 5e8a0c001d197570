package store

import (
	"bytes"
	"math"
	"testing"

	"gitlike/api"
	"gitlike/object"
	"gitlike/pack"
)

// Two packs of one SHA-1 cannot be made: so a store is told of one whose name is another one's.

func blobOf(text string) api.Object { return api.Object{Kind: api.Blob, Data: []byte(text)} }

// taken is a store that has a pack of these blobs under the name of another pack.
func taken(t *testing.T, other []byte, texts ...string) *Store {
	t.Helper()
	s, err := Open(api.NewDisk(1 << 20))
	if err != nil {
		t.Fatal(err)
	}
	var l []api.Object
	for _, x := range texts {
		l = append(l, blobOf(x))
	}
	b, err := pack.Write(l)
	if err != nil {
		t.Fatal(err)
	}
	places, _ := pack.Places(b, nil)
	idx, _ := pack.WriteIdx(places, sumOf(other))
	if err := s.lay(file{packName(sumOf(other)), b}, file{idxName(sumOf(other)), idx}); err != nil {
		t.Fatal(err)
	}
	s.packs[sumOf(other)] = newPile(b, places)
	s.disk.SyncDir()
	return s
}

// allThere wants blobs to be there, and no others.
func allThere(t *testing.T, name string, s *Store, texts ...string) {
	t.Helper()
	for _, x := range texts {
		id, _ := object.ID(blobOf(x))
		if o, err := s.Get(id); err != nil || string(o.Data) != x {
			t.Fatalf("%s: %q: %q, %v", name, x, o.Data, err)
		}
	}
	if n := len(s.All()); n != len(texts) {
		t.Fatalf("%s: %d objects for %d", name, n, len(texts))
	}
}

// TestAddPackUnderUsedName: 6.4, what is in both packs is there.
func TestAddPackUnderUsedName(t *testing.T) {
	b, _ := pack.Write([]api.Object{blobOf("a"), blobOf("b")})
	s := taken(t, b, "c", "a", "d")
	was, _ := s.readFile(packName(sumOf(b)))
	if ids, err := s.AddPack(b); err != nil || len(ids) != 2 {
		t.Fatalf("%v, %v", ids, err)
	}
	allThere(t, "added", s, "a", "b", "c", "d")
	if is, err := s.disk.ReadAt(packName(sumOf(b)), 0, math.MaxInt); err != nil || !bytes.Equal(is, was) {
		t.Errorf("the pack is another one: %v", err)
	}
}

// TestRepackUnderUsedName: 6.5 and 6.6, whatever operation fails, what is to be kept is there.
func TestRepackUnderUsedName(t *testing.T) {
	a, _ := object.ID(blobOf("a"))
	b, _ := pack.Write([]api.Object{blobOf("a")})
	for _, times := range []int{1, 1 << 30} {
		for after := 0; ; after++ {
			s := taken(t, b, "c", "a", "d")
			s.disk.Fail(after, times)
			err := s.Repack([]api.ID{a})
			s.disk.Fail(0, 0)
			for _, id := range s.All() {
				if o, err := s.Get(id); err != nil {
					t.Fatalf("behind %d operations: %q, %v", after, o.Data, err)
				}
			}
			if !s.Has(a) {
				t.Fatalf("behind %d operations: it is lost", after)
			}
			if err == nil {
				allThere(t, "repacked", s, "a")
				again, _ := Open(s.disk)
				allThere(t, "opened again", again, "a")
				break
			}
			if err := s.Repack([]api.ID{a}); err != nil {
				t.Fatal(err)
			}
			allThere(t, "repacked again", s, "a")
		}
	}
}
