package stage_test

import (
	"crypto/sha1"
	"encoding/binary"
	"errors"
	"fmt"
	"slices"
	"strconv"
	"strings"
	"testing"

	"gitlike/api"
	"gitlike/object"
	"gitlike/stage"
)

const (
	file = api.FileMode
	dir  = api.DirMode
)

// of is an entry of that path and stage, with an id, a mode and a size that hang on the path.
func of(path string, n int) api.Entry {
	modes := []api.Mode{api.FileMode, api.ExecMode, api.LinkMode}
	return api.Entry{Path: path, Mode: modes[len(path)%3], ID: api.ID(sha1.Sum([]byte(path))), Size: len(path), Stage: n}
}

// all is entries of these paths, with the stage 0.
func all(paths ...string) []api.Entry {
	var l []api.Entry
	for _, p := range paths {
		l = append(l, of(p, 0))
	}
	return l
}

// many is so many entries, in order.
func many(n int) []api.Entry {
	var l []api.Entry
	for i := range n {
		l = append(l, of("f"+strconv.Itoa(100000+i), 0))
	}
	return l
}

// brief is the first of entries, for a test that tells of them.
func brief(l []api.Entry) string {
	text := strconv.Itoa(len(l)) + " entries:"
	for _, e := range l[:min(len(l), 20)] {
		text += fmt.Sprintf(" %q %o %x %d %d", e.Path, e.Mode, e.ID[:2], e.Size, e.Stage)
	}
	return text
}

// refused wants Write to answer that error, whatever the order of entries is, and Trees too.
func refused(t *testing.T, name string, l []api.Entry, want api.Errno) {
	t.Helper()
	for range 2 {
		b, err := stage.Write(l)
		trees, err2 := stage.Trees(l)
		if len(b) != 0 || len(trees) != 0 || api.Tell(err) != want || api.Tell(err2) != want {
			t.Errorf("%s: Write: %d bytes, %v; Trees: %d, %v; not %v", name, len(b), err, len(trees), err2, want)
		}
		l = slices.Clone(l)
		slices.Reverse(l)
	}
}

// written is what Write makes of entries that are right.
func written(t *testing.T, l []api.Entry) []byte {
	t.Helper()
	b, err := stage.Write(l)
	if err != nil {
		t.Fatalf("Write of %s: %v", brief(l), err)
	}
	return b
}

// raw is an entry's bytes, as 8.3 tells them, whether it is right or not.
func raw(e api.Entry) []byte {
	b := make([]byte, 24)
	b = binary.BigEndian.AppendUint32(b, uint32(e.Mode))
	b = append(b, make([]byte, 8)...)
	b = binary.BigEndian.AppendUint32(b, uint32(e.Size))
	b = append(b, e.ID[:]...)
	b = binary.BigEndian.AppendUint16(b, uint16(e.Stage*4096+len(e.Path)))
	b = append(b, e.Path...)
	b = append(b, 0)
	for len(b)%8 != 0 {
		b = append(b, 0)
	}
	return b
}

// body is an index without its sum: these entries, in the order in which they are given, whether they are right or not.
func body(l ...api.Entry) []byte {
	b := binary.BigEndian.AppendUint32([]byte("DIRC\x00\x00\x00\x02"), uint32(len(l)))
	for _, e := range l {
		b = append(b, raw(e)...)
	}
	return b
}

// summed is bytes with their SHA-1 behind them.
func summed(b []byte) []byte {
	sum := sha1.Sum(b)
	return append(slices.Clone(b), sum[:]...)
}

// inOrder is entries in order.
func inOrder(l []api.Entry) []api.Entry {
	l = slices.Clone(l)
	slices.SortFunc(l, func(a, b api.Entry) int {
		if a.Path != b.Path {
			return strings.Compare(a.Path, b.Path)
		}
		return a.Stage - b.Stage
	})
	return l
}

// te is an entry of a tree.
func te(mode api.Mode, name string, id api.ID) api.TreeEntry {
	return api.TreeEntry{Mode: mode, Name: name, ID: id}
}

// treeOf is a tree, and its id.
func treeOf(t *testing.T, l ...api.TreeEntry) (api.Object, api.ID) {
	t.Helper()
	b, err := object.WriteTree(l)
	if err != nil {
		t.Fatal(err)
	}
	o := api.Object{Kind: api.Tree, Data: b}
	return o, idOf(t, o)
}

func idOf(t *testing.T, o api.Object) api.ID {
	t.Helper()
	id, err := object.ID(o)
	if err != nil {
		t.Fatal(err)
	}
	return id
}

// planted is what Trees makes of entries, and the root's id.
func planted(t *testing.T, l []api.Entry) ([]api.Object, api.ID) {
	t.Helper()
	trees, err := stage.Trees(l)
	if err != nil || len(trees) == 0 {
		t.Fatalf("Trees of %s: %d, %v", brief(l), len(trees), err)
	}
	return trees, idOf(t, trees[len(trees)-1])
}

// bare is entries as Flat tells them: without sizes, in order.
func bare(l []api.Entry) []api.Entry {
	l = inOrder(l)
	for i := range l {
		l[i].Size = 0
	}
	return l
}

// flat wants Flat to tell these entries.
func flat(t *testing.T, name string, root api.ID, trees []api.Object, want []api.Entry) {
	t.Helper()
	got, err := stage.Flat(root, trees)
	if err != nil || !slices.Equal(got, want) {
		t.Errorf("%s: %s, %v, not %s", name, brief(got), err, brief(want))
	}
}

// notFlat wants Flat to answer an error.
func notFlat(t *testing.T, name string, root api.ID, trees []api.Object, want api.Errno) {
	t.Helper()
	l, err := stage.Flat(root, trees)
	if len(l) != 0 || api.Tell(err) != want {
		t.Errorf("%s: %d entries, %v, not %v", name, len(l), err, want)
	}
}

// missing wants Flat to tell that the tree of that id is missing.
func missing(t *testing.T, name string, root api.ID, trees []api.Object, id api.ID) {
	t.Helper()
	notFlat(t, name, root, trees, api.ErrMissing)
	_, err := stage.Flat(root, trees)
	var of *api.IDError
	if !errors.As(err, &of) || of.ID != id || of.Err != api.ErrMissing {
		t.Errorf("%s: %v (%T), not of %v", name, err, err, id)
	}
}
