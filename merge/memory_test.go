package merge_test

import (
	"bytes"
	"slices"
	"testing"

	"gitlike/api"
	"gitlike/merge"
)

// roomy is a list with room behind it, and the whole of it.
func roomy[T any](l []T, behind T) (list, whole []T) {
	whole = append(slices.Clone(l), behind, behind, behind)
	return whole[:len(l)], whole
}

// scribble writes over all of a slice, and over the room behind it.
func scribble[T any](l []T, with T) {
	l = l[:cap(l)]
	for i := range l {
		l[i] = with
	}
}

// TestTextsAreLeftAlone: texts, and the room behind them.
func TestTextsAreLeftAlone(t *testing.T) {
	all := []string{"", "a", "a\nb\nc\n", "x\nb\nc\n", "a\nb\ny", "c\nb\na", numbered(0, 2001)}
	for _, base := range all {
		for _, ours := range all {
			for _, theirs := range all {
				b, wholeB := roomy([]byte(base), 0xa5)
				o, wholeO := roomy([]byte(ours), 0x5a)
				th, wholeT := roomy([]byte(theirs), 0x55)
				wasB, wasO, wasT := slices.Clone(wholeB), slices.Clone(wholeO), slices.Clone(wholeT)
				merge.Texts(b, o, th, "A", "B")
				if !bytes.Equal(wholeB, wasB) || !bytes.Equal(wholeO, wasO) || !bytes.Equal(wholeT, wasT) {
					t.Errorf("%s, %s or %s is changed", brief(base), brief(ours), brief(theirs))
				}
			}
		}
	}
}

// TestTextsAreNew scribbles over what was handed in, and over each answer: the others, and the next ones, are as they should be. One that is all of an argument is no less new.
func TestTextsAreNew(t *testing.T) {
	for _, c := range [][4]string{
		{"a\nb\nc", "a\nb\nc", "a\nb\nc", "a\nb\nc"},
		{"a\nb\nc", "x\ny", "a\nb\nc", "x\ny"},
		{"a\nb\nc", "a\nb\nc", "x\ny", "x\ny"},
		{"a\nb\nc\n", "x\nb\nc\n", "a\nb\ny\n", "x\nb\ny\n"},
		{"a", "b", "c", "<<<<<<< A\nb\n=======\nc\n>>>>>>> B\n"},
	} {
		for range 2 {
			base, ours, theirs := []byte(c[0]), []byte(c[1]), []byte(c[2])
			got, _ := merge.Texts(base, ours, theirs, "A", "B")
			other, _ := merge.Texts(base, ours, theirs, "A", "B")
			scribble(base, '?')
			scribble(ours, '?')
			scribble(theirs, '?')
			scribble(other, '?')
			if string(got) != c[3] {
				t.Errorf("%q, not %q", got, c[3])
			}
			scribble(got, '?')
		}
	}
}

// manyKinds is files of which all that can become of files becomes, and their blobs.
func manyKinds() (base, ours, theirs []api.Entry, blobs []api.Object) {
	const b, o, t = "z:abcde m:12345 a:1 b:12345 c:1 d:1 e:98765 f:zyxwv", "y:abcde m:1234o a:2 b:x2345 d:2 e:98765 f:zyxwo new:n own:p", "z:abcdt m:t2345 a:3 b:1234y c:2 g:98765 f:tyxwv new:w their:q"
	return files(b), files(o), files(t), blobsOf(b, o, t)
}

// TestFilesAreLeftAlone: files, blobs, their bytes, and the room behind all of them.
func TestFilesAreLeftAlone(t *testing.T) {
	b, o, th, bl := manyKinds()
	for _, more := range [][]api.Entry{nil, {{Path: "//"}}, files("q#1:1"), files("own/x:1")} {
		base, wholeB := roomy(b, file("marked", ""))
		ours, wholeO := roomy(o, file("marked", ""))
		theirs, wholeT := roomy(append(slices.Clone(th), more...), file("marked", ""))
		blobs, wholeBlobs := roomy(append(slices.Clone(bl), api.Object{Kind: 9}), api.Object{Kind: 77})
		var rooms, were [][]byte
		for i := range blobs {
			data, room := roomy(blobs[i].Data, 0xa5)
			blobs[i].Data = data
			rooms, were = append(rooms, room), append(were, slices.Clone(room))
		}
		wasB, wasO, wasT := slices.Clone(wholeB), slices.Clone(wholeO), slices.Clone(wholeT)
		got, err := merge.Trees(base, ours, theirs, blobs)
		if more == nil && (err != nil || len(got.Blobs) != 3) {
			t.Errorf("%s, %s, %v", show(got.Entries), showBlobs(got.Blobs), err)
		}
		if !slices.Equal(wholeB, wasB) || !slices.Equal(wholeO, wasO) || !slices.Equal(wholeT, wasT) {
			t.Error("files are changed")
		}
		for i, o := range wholeBlobs {
			switch {
			case i >= len(rooms):
				if o.Kind != 77 || o.Data != nil {
					t.Error("the room behind blobs is changed")
				}
			case !bytes.Equal(rooms[i], were[i]) || len(o.Data) != len(were[i])-3 || len(o.Data) > 0 && &o.Data[0] != &rooms[i][0]:
				t.Errorf("blob %d is changed", i)
			}
		}
	}
}

// TestTreesAreNew: likewise of Trees, its entries and its blobs.
func TestTreesAreNew(t *testing.T) {
	base, ours, theirs, blobs := manyKinds()
	want, err := merge.Trees(base, ours, theirs, blobs)
	if err != nil {
		t.Fatal(err)
	}
	for range 3 {
		base, ours, theirs, blobs := manyKinds()
		got, _ := merge.Trees(base, ours, theirs, blobs)
		other, _ := merge.Trees(base, ours, theirs, blobs)
		for _, l := range [][]api.Entry{base, ours, theirs, other.Entries} {
			scribble(l, api.Entry{Path: "?"})
		}
		for _, o := range slices.Concat(blobs, other.Blobs) {
			scribble(o.Data, '?')
		}
		scribble(blobs, api.Object{})
		scribble(other.Blobs, api.Object{})
		if !sameMerged(got, want) {
			t.Errorf("%s, %s\nnot %s, %s", show(got.Entries), showBlobs(got.Blobs), show(want.Entries), showBlobs(want.Blobs))
		}
		scribble(got.Blobs[0].Data, '?')
		if string(got.Blobs[1].Data) != string(want.Blobs[1].Data) {
			t.Error("blobs share their bytes")
		}
	}
	// The only side that has files is not what is answered.
	one := files("a:1 b:2")
	for _, lists := range [][3][]api.Entry{{one, one, one}, {nil, one, nil}, {nil, nil, one}} {
		got, _ := merge.Trees(lists[0], lists[1], lists[2], nil)
		scribble(got.Entries, api.Entry{})
		if !slices.Equal(one, files("a:1 b:2")) {
			t.Fatal("the entries are those that were handed in")
		}
	}
}
