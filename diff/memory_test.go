package diff_test

import (
	"bytes"
	"slices"
	"testing"

	"gitlike/api"
	"gitlike/diff"
)

// roomy is a list with room behind it, and the whole of it.
func roomy[T any](l []T, behind T) (list, whole []T) {
	whole = append(slices.Clone(l), behind, behind, behind)
	return whole[:len(l)], whole
}

// TestTextsAreLeftAlone: texts and patches, and the room behind them.
func TestTextsAreLeftAlone(t *testing.T) {
	texts := []string{"", "a", "a\nb\nc\n", "c\nb\na", "a\nx\nc\nd", numbered(0, 2001), right, rightFor, "@@ -1,1 +0,0 @@\n-a\n", "@@ -1,1 +0,0 @@\n-a\n" + noEnd}
	for _, x := range texts {
		for _, y := range texts {
			a, wholeA := roomy([]byte(x), 0xa5)
			b, wholeB := roomy([]byte(y), 0x5a)
			wasA, wasB := slices.Clone(wholeA), slices.Clone(wholeB)
			diff.Lines(a)
			diff.Edits(a, b)
			diff.Patch(a, b, 1)
			diff.Apply(a, b)
			diff.Similarity(a, b)
			if !bytes.Equal(wholeA, wasA) || !bytes.Equal(wholeB, wasB) {
				t.Errorf("%s and %s are changed", brief(x), brief(y))
			}
		}
	}
}

// TestFilesAreLeftAlone: files, blobs, their bytes, and the room behind all of them.
func TestFilesAreLeftAlone(t *testing.T) {
	was := list(file("c", full), file("b", most), file("a", none), file("z", half))
	now := list(file("y", half), file("x", turned), file("c", full), file("a", most), file("d", full))
	for _, c := range []struct {
		now   api.Entry
		least int
	}{{now[0], 1}, {now[0], 101}, {api.Entry{Path: "//"}, 1}, {api.Entry{Path: "e", Mode: api.FileMode, Stage: 1}, 1}} {
		w, wholeW := roomy(was, file("marked", none))
		n, wholeN := roomy(append(slices.Clone(now[1:]), c.now), file("marked", none))
		blobs, wholeBlobs := roomy(append(blobsOf(allTexts...), api.Object{Kind: 9}), api.Object{Kind: 77})
		var rooms [][]byte
		for i, o := range blobs {
			data, room := roomy(o.Data, 0xa5)
			blobs[i].Data = data
			rooms = append(rooms, room)
		}
		wasW, wasN := slices.Clone(wholeW), slices.Clone(wholeN)
		diff.Turns(w, n, blobs, c.least)
		if !slices.Equal(wholeW, wasW) || !slices.Equal(wholeN, wasN) {
			t.Error("files are changed")
		}
		for i, o := range wholeBlobs {
			if i >= len(rooms) {
				if o.Kind != 77 || o.Data != nil {
					t.Error("the room behind blobs is changed")
				}
			} else if want, _ := roomy(append(blobsOf(allTexts...), api.Object{Kind: 9})[i].Data, 0xa5); !bytes.Equal(o.Data, want) || !bytes.Equal(rooms[i][len(want):], []byte{0xa5, 0xa5, 0xa5}) {
				t.Errorf("blob %d is changed", i)
			}
		}
	}
}

// scribble writes over all of a slice, and over the room behind it.
func scribble[T any](l []T, with T) {
	l = l[:cap(l)]
	for i := range l {
		l[i] = with
	}
}

// TestAnswersOfTextsAreNew scribbles over what was handed in, and over each answer: the others, and the next ones, are as they should be.
func TestAnswersOfTextsAreNew(t *testing.T) {
	for range 3 {
		a, b, p := []byte("a\nb\nc"), []byte("a\nx\nc"), []byte("@@ -2,1 +2,1 @@\n-b\n+x\n")
		lines, others := diff.Lines(a), diff.Lines(a)
		edits, again := diff.Edits(a, b), diff.Edits(a, b)
		patch, twice := diff.Patch(a, b, 0), diff.Patch(a, b, 0)
		made, _ := diff.Apply(a, p)
		same, _ := diff.Apply(a, nil)
		also, _ := diff.Apply(a, nil)
		scribble(a, '?')
		scribble(b, '?')
		scribble(p, '?')
		scribble(others, "?")
		scribble(again, api.Edit{})
		scribble(twice, '?')
		scribble(also, '?')
		if !slices.Equal(lines, []string{"a\n", "b\n", "c"}) {
			t.Errorf("Lines: %q", lines)
		}
		if show(edits) != " a-b+x c" {
			t.Errorf("Edits: %q", show(edits))
		}
		if string(patch) != "@@ -2,1 +2,1 @@\n-b\n+x\n" {
			t.Errorf("Patch: %q", patch)
		}
		if string(made) != "a\nx\nc" || string(same) != "a\nb\nc" {
			t.Errorf("Apply: %q, %q", made, same)
		}
		scribble(made, '?')
		scribble(same, '?')
		scribble(patch, '?')
	}
}

// TestAnswersOfFilesAreNew: likewise of Turns.
func TestAnswersOfFilesAreNew(t *testing.T) {
	for range 3 {
		was, now, blobs := list(file("a", full), file("b", full)), list(file("a", most), file("c", half), file("d", none)), blobsOf(allTexts...)
		got, _ := diff.Turns(was, now, blobs, 1)
		other, _ := diff.Turns(was, now, blobs, 1)
		scribble(was, api.Entry{Path: "?"})
		scribble(now, api.Entry{Path: "?"})
		for _, o := range blobs {
			scribble(o.Data, '?')
		}
		scribble(blobs, api.Object{})
		scribble(other, api.Turn{})
		want := list(api.Turn{From: file("a", full), To: file("a", most)}, api.Turn{From: file("b", full), To: file("c", half), Similarity: 50}, api.Turn{To: file("d", none)})
		if !slices.Equal(got, want) {
			t.Errorf("%+v", got)
		}
		scribble(got, api.Turn{})
	}
}
