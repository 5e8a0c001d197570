package stage_test

import (
	"bytes"
	"slices"
	"testing"

	"gitlike/api"
	"gitlike/stage"
)

// TestEntriesAreLeftAlone: entries that are out of order, with room behind them, are not changed.
func TestEntriesAreLeftAlone(t *testing.T) {
	l := all("c", "b/y", "b/x", "a", "behind", "room")
	was := slices.Clone(l)
	b := written(t, l[:4])
	trees, root := planted(t, l[:4])
	refused(t, "a directory", append(l[:1:1], all("c/d", "b")...), api.ErrPath)
	if !slices.Equal(l, was) {
		t.Errorf("%v", l)
	}
	clear(l)
	if !bytes.Equal(b, summed(body(inOrder(was[:4])...))) {
		t.Errorf("%q", b)
	}
	flat(t, "behind all", root, trees, bare(was[:4]))
}

// TestBytesAreLeftAlone: what is read is not changed, nor is the room behind it, and it may be changed afterwards.
func TestBytesAreLeftAlone(t *testing.T) {
	right := written(t, some())
	for _, n := range []int{len(right), len(right) - 1, 40} {
		room := append(slices.Clone(right), bytes.Repeat([]byte{0xa5}, 500)...)
		was := slices.Clone(room)
		l, err := stage.Read(room[:n])
		if !bytes.Equal(room, was) {
			t.Fatal("what was handed in is changed")
		}
		clear(room)
		if err == nil && !slices.Equal(l, some()) {
			t.Errorf("what was handed in is kept: %v", l)
		}
	}
}

// TestTreesAreLeftAlone: the trees that are handed in, their bytes, and the room behind both.
func TestTreesAreLeftAlone(t *testing.T) {
	l := all("a/b/c", "a/d", "e")
	trees, root := planted(t, l)
	var rooms [][]byte
	for i, o := range trees {
		room := append(slices.Clone(o.Data), bytes.Repeat([]byte{0xa5}, 100)...)
		rooms = append(rooms, room)
		trees[i].Data = room[:len(o.Data)]
	}
	slices.Reverse(trees)
	trees = append(trees, api.Object{Kind: api.Tree, Data: []byte("none")}, api.Object{Kind: 77})
	var was []string
	for _, room := range rooms {
		was = append(was, string(room))
	}
	got, err := stage.Flat(root, trees[:4])
	for i, room := range rooms {
		if string(room) != was[i] {
			t.Errorf("tree %d is changed", i)
		}
		clear(room)
	}
	if trees[3].Kind != api.Tree || trees[4].Kind != 77 {
		t.Errorf("%v", trees[3:])
	}
	if err != nil || !slices.Equal(got, bare(l)) {
		t.Errorf("%v, %v", got, err)
	}
}

// TestAnswersAreNew scribbles over each answer, and over one tree of an answer: the others, and the next ones, are as they should be.
func TestAnswersAreNew(t *testing.T) {
	l := all("a.b", "a/b", "a/c/d", "c", "d/ee", "d/fff/gggg", hundred)
	want := summed(body(l...))
	first, root := planted(t, l)
	for range 3 {
		b := written(t, l)
		got, err := stage.Read(want)
		trees, _ := planted(t, l)
		files, _ := stage.Flat(root, first)
		if err != nil || !bytes.Equal(b, want) || !slices.Equal(got, l) || !slices.Equal(files, bare(l)) || len(trees) != len(first) {
			t.Fatalf("%q, %v, %v", b, got, files)
		}
		for i, o := range trees {
			if !bytes.Equal(o.Data, first[i].Data) {
				t.Fatalf("tree %d: %q", i, o.Data)
			}
			clear(o.Data[:cap(o.Data)])
		}
		clear(b[:cap(b)])
		clear(got[:cap(got)])
		clear(files[:cap(files)])
	}
}
