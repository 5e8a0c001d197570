package merge_test

import (
	"bytes"
	"fmt"
	"slices"
	"strings"
	"testing"

	"gitlike/api"
	"gitlike/merge"
	"gitlike/object"
)

// TestTreesOfOnePath: 11.2, files that keep their paths.
func TestTreesOfOnePath(t *testing.T) {
	for _, c := range []tree{
		{"nothing", "", "", "", "", ""},
		{"the same", "a:1 b/c*:2 d@:3", "a:1 b/c*:2 d@:3", "a:1 b/c*:2 d@:3", "a:1 b/c*:2 d@:3", ""},
		// Ids.
		{"one changed it", "a:1", "a:2", "a:1", "a:2", ""},
		{"both changed it alike", "a:1", "a:2", "a:2", "a:2", ""},
		{"both changed it otherwise", "a:1", "a:2", "a:3", "a#1:1 a#2:2 a#3:3", ""},
		{"both changed it, in different places", "a:12345", "a:x2345", "a:1234y", "a:x234y", "x234y"},
		{"both changed it, in one place and in others", "a:12345", "a:x23z5", "a:y23z5", "a#1:12345 a#2:x23z5 a#3:y23z5", ""},
		{"one made it empty", "a:1", "a:", "a:1", "a:", ""},
		{"one made it empty, and one changed it", "a:1", "a:", "a:2", "a#1:1 a#2: a#3:2", ""},
		{"both dropped lines", "a:123", "a:12", "a:23", "a:2", "2"},
		{"both made something of nothing", "a:", "a:1", "a:2", "a#1: a#2:1 a#3:2", ""},
		// Modes.
		{"one changed the mode", "a:1", "a*:1", "a:1", "a*:1", ""},
		{"one changed the mode back", "a*:1", "a:1", "a*:1", "a:1", ""},
		{"both changed the mode alike", "a:1", "a*:1", "a*:1", "a*:1", ""},
		{"both changed the mode otherwise", "a:1", "a*:1", "a@:1", "a#1:1 a#2*:1 a#3@:1", ""},
		{"one changed the mode, and one the id", "a:1", "a*:1", "a:2", "a*:2", ""},
		{"one changed both, and one the id alike", "a:1", "a*:2", "a:2", "a*:2", ""},
		{"one changed both, and one the id otherwise", "a:1", "a*:2", "a:3", "a#1:1 a#2*:2 a#3:3", ""},
		{"one changed the mode, and both the id, in different places", "a:12345", "a*:x2345", "a:1234y", "a*:x234y", "x234y"},
		{"both changed the mode, and the id, in different places", "a:12345", "a*:x2345", "a*:1234y", "a*:x234y", "x234y"},
		{"the modes are in conflict, and the texts are not", "a@:12345", "a*:x2345", "a:1234y", "a#1@:12345 a#2*:x2345 a#3:1234y", ""},
		{"the modes are in conflict, and one changed the id", "a:1", "a*:2", "a@:1", "a#1:1 a#2*:2 a#3@:1", ""},
		// Dropped.
		{"one dropped it", "a:1 b:2", "b:2", "a:1 b:2", "b:2", ""},
		{"both dropped it", "a:1 b:2", "b:2", "b:2", "b:2", ""},
		{"both dropped all", "a:1 b:2", "", "", "", ""},
		{"each dropped another one", "a:1 b:2", "a:1", "b:2", "", ""},
		{"one dropped it, and one changed it", "a:1", "", "a:2", "a#1:1 a#3:2", ""},
		{"one dropped it, and one changed the mode", "a:1", "a*:1", "", "a#1:1 a#2*:1", ""},
		{"one dropped it, and one changed both", "a:1", "a@:2", "", "a#1:1 a#2@:2", ""},
		// Several.
		{"some of all", "a:1 b:1 c:12345 d:1 e:1 f:1", "a:1 b:2 c:x2345 d:2", "a:2 b:3 c:1234y e:1 f:2", "a:2 b#1:1 b#2:2 b#3:3 c:x234y d#1:1 d#2:2 f#1:1 f#3:2", "x234y"},
	} {
		c.bothWays(t)
	}
}

// TestTreesOfLinks: 11.2, the bytes of links are not merged, whichever of the three is one.
func TestTreesOfLinks(t *testing.T) {
	for _, c := range []tree{
		{"all links", "a@:12345", "a@:x2345", "a@:1234y", "a#1@:12345 a#2@:x2345 a#3@:1234y", ""},
		{"base", "a@:12345", "a:x2345", "a:1234y", "a#1@:12345 a#2:x2345 a#3:1234y", ""},
		{"one side", "a:12345", "a@:x2345", "a:1234y", "a#1:12345 a#2@:x2345 a#3:1234y", ""},
		{"both sides", "a:12345", "a@:x2345", "a@:1234y", "a#1:12345 a#2@:x2345 a#3@:1234y", ""},
		{"one changed it", "a@:1", "a@:2", "a@:1", "a@:2", ""},
		{"one turned it into a file", "a@:1", "a:2", "a@:1", "a:2", ""},
		{"both turned it into the same file", "a@:1", "a:2", "a:2", "a:2", ""},
		{"one turned it into a link, and one changed it alike", "a:1", "a@:2", "a:2", "a@:2", ""},
		{"one turned it into a link, and one changed it", "a:1", "a@:1", "a:2", "a@:2", ""},
		{"moved", "a@:1", "b@:1", "a@:2", "b@:2", ""},
		{"moved and changed is gone and new", "a@:12345", "b@:1234x", "a@:12345", "b@:1234x", ""},
	} {
		c.bothWays(t)
	}
}

// TestTreesOfMoves: 11.2, files that are paired: whether one side moved them or both, and what else became of them.
func TestTreesOfMoves(t *testing.T) {
	for _, c := range []tree{
		// One side moved it.
		{"moved", "a:12345", "b:12345", "a:12345", "b:12345", ""},
		{"moved into a directory", "a:12345", "a/b/c:12345", "a:12345", "a/b/c:12345", ""},
		{"moved and changed", "a:12345", "b:1234x", "a:12345", "b:1234x", ""},
		{"moved, and changed by the other one", "a:12345", "b:12345", "a:1234x", "b:1234x", ""},
		{"moved, and quite changed by the other one", "a:12345", "b:12345", "a:x", "b:x", ""},
		{"moved and changed, and changed by the other one elsewhere", "a:12345", "b:x2345", "a:1234y", "b:x234y", "x234y"},
		{"moved and changed, and changed by the other one there", "a:12345", "b:x2345", "a:y2345", "b#1:12345 b#2:x2345 b#3:y2345", ""},
		{"moved, and another mode on the other side", "a:12345", "b:12345", "a*:12345", "b*:12345", ""},
		{"moved, with another mode", "a:12345", "b*:12345", "a:12345", "b*:12345", ""},
		{"moved, and modes in conflict", "a:12345", "b*:12345", "a@:12345", "b#1:12345 b#2*:12345 b#3@:12345", ""},
		{"moved, all of a directory", "d/a:12345 d/b:abcde", "e/a:12345 e/b:abcde", "d/a:1234x d/b:abcde", "e/a:1234x e/b:abcde", ""},
		// One side moved it, and the other dropped it.
		{"moved and dropped", "a:12345", "b:12345", "", "b#1:12345 b#2:12345", ""},
		{"moved and changed, and dropped", "a:12345", "", "b*:1234x", "b#1:12345 b#3*:1234x", ""},
		// Both moved it.
		{"both moved it to one path", "a:12345", "b:12345", "b:12345", "b:12345", ""},
		{"both to one path, and one changed it", "a:12345", "b:1234x", "b:12345", "b:1234x", ""},
		{"both to one path, and both changed it alike", "a:12345", "b:1234x", "b:1234x", "b:1234x", ""},
		{"both to one path, and both changed it elsewhere", "a:12345", "b:x2345", "b:1234y", "b:x234y", "x234y"},
		{"both to one path, and both changed it there", "a:12345", "b:x2345", "b:y2345", "b#1:12345 b#2:x2345 b#3:y2345", ""},
		{"both to one path, and modes in conflict", "a@:12345", "b*:12345", "b:12345", "b#1@:12345 b#2*:12345 b#3:12345", ""},
		{"both to different paths", "a:12345", "b:12345", "c:12345", "a#1:12345 b#2:12345 c#3:12345", ""},
		{"both to different paths, and both changed it elsewhere", "a:12345", "b:x2345", "c:1234y", "a#1:12345 b#2:x2345 c#3:1234y", ""},
		{"both to different paths, alike, with other modes", "a:12345", "b*:12345", "c@:12345", "a#1:12345 b#2*:12345 c#3@:12345", ""},
		// What is not similar is another file.
		{"half of it is the same", "a:1234", "b:12xy", "a:1234", "b:12xy", ""},
		{"half of it is the same, and the other one changed it elsewhere", "a:1234", "b:12xy", "a:z234", "b:z2xy", "z2xy"},
		{"less than half of it", "a:12345", "b:12xyz", "a:12345", "b:12xyz", ""},
		{"less than half of it, and the other one changed it", "a:12345", "b:12xyz", "a:z2345", "a#1:12345 a#3:z2345 b:12xyz", ""},
		{"the other one has it still", "a:12345", "a:12345 b:12345", "a:1234x", "a:1234x b:12345", ""},
		{"the other one is there again", "a:12345", "a:q b:12345", "a:1234x", "a#1:12345 a#2:q a#3:1234x b:12345", ""},
		// Several.
		{"two change places", "a:12345 b:abcde", "a:abcde b:12345", "a:12345 b:abcde", "a:abcde b:12345", ""},
		{"each side moved another one", "a:12345 b:abcde", "c:12345 b:abcde", "a:12345 d:abcde", "c:12345 d:abcde", ""},
		{"moved to where one was that is moved, too", "a:12345 b:abcde", "b:12345 c:abcde", "a:12345 b:abcde", "b:12345 c:abcde", ""},
	} {
		c.bothWays(t)
	}
}

// TestLeastSimilarity: 11.2, files that are 50 alike are one, files that are 49 alike are two.
func TestLeastSimilarity(t *testing.T) {
	for alike, want := range map[int]string{49: "a#1 a#3 b", 50: "b"} {
		both := strings.Repeat("x", alike-1) + "\n"
		base, ours := both+strings.Repeat("y", 100-alike), both+strings.Repeat("z", 100-alike)
		theirs := "new\n" + base
		got, err := merge.Trees([]api.Entry{file("a", base)}, []api.Entry{file("b", ours)}, []api.Entry{file("a", theirs)}, []api.Object{blob(base), blob(ours), blob(theirs)})
		if s := places(got.Entries); err != nil || s != want {
			t.Errorf("%d: %s, %v, not %s", alike, s, err, want)
		}
	}
}

// places is the paths and stages of entries.
func places(l []api.Entry) string {
	var s []string
	for _, e := range l {
		one := e.Path
		if e.Stage > 0 {
			one += fmt.Sprint("#", e.Stage)
		}
		s = append(s, one)
	}
	return strings.Join(s, " ")
}

// TestTreesOfNewFiles: 11.2, new files, on one side and on both.
func TestTreesOfNewFiles(t *testing.T) {
	for _, c := range []tree{
		{"on one side", "", "n:1", "", "n:1", ""},
		{"a link", "", "n@:1", "", "n@:1", ""},
		{"on each side another one", "", "m:1", "n:1", "m:1 n:1", ""},
		{"on both sides, alike", "", "n*:1", "n*:1", "n*:1", ""},
		{"on both sides, with another id", "", "n:12345", "n:1234x", "n#2:12345 n#3:1234x", ""},
		{"on both sides, with another mode", "", "n:1", "n*:1", "n#2:1 n#3*:1", ""},
		{"on both sides, with both", "", "n:1", "n@:2", "n#2:1 n#3@:2", ""},
		{"beside others", "a:1 z:2", "a:1 m/n:3 z:2", "a:1 m/o:4 z:5", "a:1 m/n:3 m/o:4 z:5", ""},
		{"where one was dropped", "a/b:1", "a:2", "a/b:1", "a:2", ""},
		{"in what was a file", "a:1", "a/b:2", "a:1", "a/b:2", ""},
		{"in what was a file, on both sides", "a:1", "a/b:2", "a/c:3", "a/b:2 a/c:3", ""},
		{"beside one that was moved", "a:12345", "b:12345 n:6", "a:12345 n:6", "b:12345 n:6", ""},
	} {
		c.bothWays(t)
	}
}

// TestTreesOrder: 11.2, the entries by their paths' bytes, then by their stages; each sort of them among the others.
func TestTreesOrder(t *testing.T) {
	tree{"", "b:12345 a.c:1 a/c:1 a0:1 é:1 Z:1", "c:12345 a.c:2 a/c:2 a0:1 é:2 Z:1 n:1", "d:12345 a.c:3 a/c:1 a0:3 Z:4 n:2",
		"Z:4 a.c#1:1 a.c#2:2 a.c#3:3 a/c:2 a0:3 b#1:12345 c#2:12345 d#3:12345 n#2:1 n#3:2 é#1:1 é#2:2", ""}.bothWays(t)
}

// TestSizes: 11.2, the size is that of the entry that has the id, ours first, and that of the text, where one was made.
func TestSizes(t *testing.T) {
	for _, c := range []tree{
		{"nothing is changed", "a~1:1", "a~2:1", "a~3:1", "a~2:1", ""},
		{"both alike", "a~1:1", "a~2:2", "a~3:2", "a~2:2", ""},
		{"ours", "a~1:1", "a~2:2", "a~3:1", "a~2:2", ""},
		{"theirs", "a~1:1", "a~2:1", "a~3:2", "a~3:2", ""},
		{"ours, with the mode of theirs", "a~1:1", "a~2:2", "a*~3:1", "a*~2:2", ""},
		{"theirs, with the mode of ours", "a~1:1", "a*~2:1", "a~3:2", "a*~3:2", ""},
		{"theirs, with the path of ours", "a~1:12345", "b~2:12345", "a~3:1234x", "b~3:1234x", ""},
		{"ours, with the path of theirs", "a~1:12345", "a~2:1234x", "b~3:12345", "b~2:1234x", ""},
		{"a text", "a~1:12345", "a~2:x2345", "a~3:1234y", "a~10:x234y", "x234y"},
		{"a conflict", "a~1:1", "a~2:2", "a~3:3", "a#1~1:1 a#2~2:2 a#3~3:3", ""},
		{"different paths", "a~1:1", "b~2:1", "c~3:1", "a#1~1:1 b#2~2:1 c#3~3:1", ""},
		{"dropped and changed", "a~1:1", "", "a~3:2", "a#1~1:1 a#3~3:2", ""},
		{"dropped, and left alone but for the size", "a~1:1", "", "a~3:1", "", ""},
		{"new", "", "m~2:1", "n~3:1", "m~2:1 n~3:1", ""},
		{"new on both sides", "", "n~2:1", "n~3:1", "n~2:1", ""},
		{"new on both sides, otherwise", "", "n~2:1", "n~3:2", "n#2~2:1 n#3~3:2", ""},
		{"the greatest", "a~100000:1", "a~0:1", "a~100000:2", "a~100000:2", ""},
	} {
		c.check(t, c.all())
	}
}

// TestNewTexts: 11.2, the new texts, each once, by their ids' bytes, and none that is in no entry.
func TestNewTexts(t *testing.T) {
	for _, c := range []tree{
		{"one in two files", "a:12345 b:12345", "a:x2345 b:x2345", "a:1234y b:1234y", "a:x234y b:x234y", "x234y"},
		{"one, made of different ones", "a:12345 b:q2345", "a:x2345 b:x2345", "a:1234y b:q234y", "a:x234y b:x234y", "x234y"},
		{"several", "a:12345 b:22345 c:32345 d:42345 e:52345 f:62345", "a:p2345 b:q2345 c:r2345 d:s2345 e:t2345 f:u2345", "a:1234y b:2234y c:3234y d:4234y e:5234y f:6234y",
			"a:p234y b:q234y c:r234y d:s234y e:t234y f:u234y", "p234y q234y r234y s234y t234y u234y"},
		{"beside a conflict", "a:12345 b:12345", "a:x2345 b:x2345", "a:1234y b:y2345", "a:x234y b#1:12345 b#2:x2345 b#3:y2345", "x234y"},
		{"as it is on one side", "a:123", "a:x23y", "a:x23", "a:x23y", "x23y"},
		{"as another file is", "a:12345 b:1", "a:x2345 b:x234y", "a:1234y b:1", "a:x234y b:x234y", "x234y"},
		{"of one line", "a:aba", "a:ab", "a:ba", "a:b", "b"},
		{"not where the texts are in conflict", "a:1 b:12345", "a:2 b:x2345", "a:3 b:1234y", "a#1:1 a#2:2 a#3:3 b:x234y", "x234y"},
		{"not where the modes are", "a@:12345 b:12345", "a*:x2345 b:z2345", "a:1234y b:1234y", "a#1@:12345 a#2*:x2345 a#3:1234y b:z234y", "z234y"},
		{"not where the paths are", "a:12345", "b:x2345", "c:1234y", "a#1:12345 b#2:x2345 c#3:1234y", ""},
	} {
		c.bothWays(t)
	}
}

// TestMissingBlobs: 11.2, where one of three blobs is not among those handed in, or what is there is no blob, the id is in conflict.
func TestMissingBlobs(t *testing.T) {
	c := tree{"", "a:12345", "a:x2345", "a:1234y", "a:x234y", "x234y"}
	c.check(t, c.all())
	c.check(t, append(c.all(), c.all()...))
	c.check(t, append(blobsOf("z:9 z:"), append(c.all(), api.Object{}, api.Object{Kind: 9, Data: []byte("1\n")}, api.Object{Kind: api.Blob, Data: make([]byte, api.MaxBlob+1)}, api.Object{Kind: -1})...))
	c.want, c.made = "a#1:12345 a#2:x2345 a#3:1234y", ""
	for i, missing := range []string{"base", "ours", "theirs"} {
		c.name = missing
		c.check(t, slices.Delete(c.all(), i, i+1))
		for _, kind := range []api.Kind{api.Commit, api.Tree, api.Tag, 0, 5, -1} {
			other := c.all()
			other[i].Kind = kind
			c.check(t, other)
		}
	}
	c.name = "no blobs"
	c.check(t, nil)
	// Files whose bytes are not there are one by their ids alone.
	tree{"moved", "a:12345", "b:12345", "a:1234x", "b:1234x", ""}.check(t, nil)
	tree{"moved and changed", "a:12345", "b:1234x", "a:12345", "b:1234x", ""}.check(t, nil)
	tree{"moved and changed, and changed", "a:12345", "b:1234x", "a:y2345", "a#1:12345 a#3:y2345 b:1234x", ""}.check(t, blobsOf("a:12345 a:y2345"))
}

// TestObjectsThatAreNoBlobs: 11.2, files whose ids are those of other objects: their bytes are not merged.
func TestObjectsThatAreNoBlobs(t *testing.T) {
	var l [3][]api.Entry
	var blobs []api.Object
	for i, s := range []string{"12345", "x2345", "1234y"} {
		o := api.Object{Kind: api.Commit, Data: []byte(each(s))}
		id, err := object.ID(o)
		if err != nil {
			t.Fatal(err)
		}
		blobs = append(blobs, o)
		l[i] = []api.Entry{{Path: "a", Mode: api.FileMode, ID: id}}
	}
	got, err := merge.Trees(l[0], l[1], l[2], blobs)
	if err != nil || len(got.Entries) != 3 || len(got.Blobs) != 0 {
		t.Errorf("%s, %s, %v", show(got.Entries), showBlobs(got.Blobs), err)
	}
}

// TestNoughtAndLongObjects: 11.2, a file whose id is nought is not one whose bytes are an object that has no id.
func TestNoughtAndLongObjects(t *testing.T) {
	long := api.Object{Kind: api.Blob, Data: []byte(each("12345") + strings.Repeat("x", api.MaxBlob))}
	base, ours, theirs := file("a", ""), file("a", each("x2345")), file("a", each("12345"))
	base.ID = api.ID{}
	blobs := append(blobsOf("a:x2345 a:12345"), long)
	got, err := merge.Trees([]api.Entry{base}, []api.Entry{ours}, []api.Entry{theirs}, blobs)
	if s := places(got.Entries); err != nil || s != "a#1 a#2 a#3" || len(got.Blobs) != 0 {
		t.Errorf("%s, %s, %v", s, showBlobs(got.Blobs), err)
	}
}

// TestLongTexts: 11.2, a text of at most MaxBlob bytes can be that of a file; if it has one more, the ids are in conflict.
func TestLongTexts(t *testing.T) {
	base := strings.Repeat(strings.Repeat("x", 99)+"\n", api.MaxBlob/100-1)
	room := api.MaxBlob - len(base)
	for more := -1; more <= 1; more++ {
		ours, theirs := "ours\n"+base, base+strings.Repeat("y", room-len("ours\n")+more)
		made := "ours\n" + theirs
		got, err := merge.Trees([]api.Entry{file("a", base)}, []api.Entry{file("a", ours)}, []api.Entry{file("a", theirs)}, []api.Object{blob(base), blob(ours), blob(theirs)})
		var want api.Merged
		if more <= 0 {
			want = api.Merged{Entries: []api.Entry{file("a", made)}, Blobs: []api.Object{blob(made)}}
		} else {
			b, o, th := file("a", base), file("a", ours), file("a", theirs)
			b.Stage, o.Stage, th.Stage = 1, 2, 3
			want.Entries = []api.Entry{b, o, th}
		}
		if err != nil || !sameMerged(got, want) {
			t.Errorf("%d bytes: %s, %v", len(made), show(got.Entries), err)
		}
	}
}

// TestTreesErrors: 11.2, the errors of stage.Write, and ErrMerge: of base, of ours, of theirs, in that order.
func TestTreesErrors(t *testing.T) {
	right := files("a:1 b/c:2")
	many := make([]api.Entry, api.MaxEntries+1)
	for i := range many {
		many[i] = file(fmt.Sprint("m", i), "")
	}
	wrong := []struct {
		name string
		list []api.Entry
		want api.Errno
	}{
		{"no path", []api.Entry{{Mode: api.FileMode}}, api.ErrPath},
		{"a path that is none", []api.Entry{file("a", ""), file("b//c", "")}, api.ErrPath},
		{"a path that is too long", []api.Entry{file(strings.Repeat("x", api.MaxPath+1), "")}, api.ErrPath},
		{"a directory's mode", []api.Entry{{Path: "a", Mode: api.DirMode}}, api.ErrStage},
		{"no mode", []api.Entry{{Path: "a"}}, api.ErrStage},
		{"a size below 0", []api.Entry{{Path: "a", Mode: api.FileMode, Size: -1}}, api.ErrStage},
		{"a size that is too great", []api.Entry{{Path: "a", Mode: api.FileMode, Size: api.MaxBlob + 1}}, api.ErrStage},
		{"a stage below 0", []api.Entry{{Path: "a", Mode: api.FileMode, Stage: -1}}, api.ErrStage},
		{"stage 4", []api.Entry{{Path: "a", Mode: api.FileMode, Stage: 4}}, api.ErrStage},
		{"a path twice", files("a:1 a:2"), api.ErrStage},
		{"a path with stage 0 and with another one", files("a:1 a#2:2"), api.ErrStage},
		{"too many", many, api.ErrStage},
		{"a file that is a directory", files("a:1 a/b:2"), api.ErrPath},
		{"stage 1", files("a#1:1"), api.ErrMerge},
		{"stage 2", files("b:1 a#2:1"), api.ErrMerge},
		{"stage 3", files("a#3:1 b:1"), api.ErrMerge},
		{"three stages", files("a#1:1 a#2:2 a#3:3"), api.ErrMerge},
	}
	for _, w := range wrong {
		refused(t, w.name+" in base", w.list, right, right, nil, w.want)
		refused(t, w.name+" in ours", right, w.list, right, nil, w.want)
		refused(t, w.name+" in theirs", right, right, w.list, nil, w.want)
		refused(t, w.name+" alone", w.list, nil, nil, nil, w.want)
		refused(t, w.name+" everywhere", w.list, w.list, w.list, nil, w.want)
		for _, v := range wrong {
			refused(t, w.name+" in base, "+v.name+" in ours", w.list, v.list, right, nil, w.want)
			refused(t, w.name+" in base, "+v.name+" in theirs", w.list, right, v.list, nil, w.want)
			refused(t, w.name+" in ours, "+v.name+" in theirs", right, w.list, v.list, nil, w.want)
		}
	}
	// All these are told ahead of ErrConflict.
	refused(t, "", files("a:1"), files("p:1 a:1"), files("p/q:2 a#1:1"), nil, api.ErrMerge)
}

// TestTreesInConflict: 11.2, ErrConflict, if what it comes to is not right.
func TestTreesInConflict(t *testing.T) {
	for _, c := range []struct{ name, base, ours, theirs string }{
		{"a new file and a new directory", "", "p:1", "p/q:2"},
		{"a new file, and one of another side's directory", "", "p:1", "p/q/r:1"},
		{"a file that is changed, and a directory in its place", "p:1", "p:2", "p/q:3"},
		{"a file that is moved into what is a file on the other side", "a:12345", "p/q:12345", "a:12345 p:2"},
		{"a new file where another one is moved", "a:12345", "n:12345", "a:12345 n:x"},
		{"the same, alike", "a:12345", "n:12345", "a:12345 n:12345"},
		{"the same, and it is changed, too", "a:12345", "n:1234x", "a:y2345 n:x"},
		{"a new file where one is moved that the other side dropped", "a:12345", "n:12345", "n:x"},
		{"a new file where one of two paths is", "a:12345", "b:12345 c:x", "c:12345"},
		{"two files are moved to one path", "a:12345 b:abcde", "n:12345 b:abcde", "a:12345 n:abcde"},
		{"two files are moved to one path, and dropped", "a:12345 b:abcde", "n:12345", "n:abcde"},
		{"two that are the same", "a:12345 b:12345", "n:12345 b:12345", "a:12345 n:12345"},
		{"a new text, and a new file where a directory is", "a:12345", "a:x2345 p:1", "a:1234y p/q:1"},
	} {
		blobs := blobsOf(c.base, c.ours, c.theirs)
		refused(t, c.name, files(c.base), files(c.ours), files(c.theirs), blobs, api.ErrConflict)
		refused(t, c.name+", the other way round", files(c.base), files(c.theirs), files(c.ours), blobs, api.ErrConflict)
	}
}

// some is so many files, each with a text of its own.
func some(name string, n int) []api.Entry {
	var l []api.Entry
	for i := range n {
		l = append(l, file(fmt.Sprintf("%s%04d", name, i), fmt.Sprintln(name, i)))
	}
	return l
}

// TestTreesOfMany: 11.2 and 8.2, as many entries as may be, and one more.
func TestTreesOfMany(t *testing.T) {
	most := some("a", api.MaxEntries)
	got, err := merge.Trees(most, most, most, nil)
	if err != nil || !slices.Equal(got.Entries, most) {
		t.Errorf("the same: %d entries, %v", len(got.Entries), err)
	}
	x, y := some("x", api.MaxEntries/2), some("y", api.MaxEntries/2)
	if got, err := merge.Trees(nil, x, y, nil); err != nil || !slices.Equal(got.Entries, slices.Concat(x, y)) {
		t.Errorf("new ones of both sides: %d entries, %v", len(got.Entries), err)
	}
	refused(t, "one more", nil, x, some("y", api.MaxEntries/2+1), nil, api.ErrConflict)
	refused(t, "two more", nil, append(slices.Clone(x), files("z:1")...), append(slices.Clone(y), files("z:2")...), nil, api.ErrConflict)
	// 666 times three entries, and two others.
	third := some("c", api.MaxEntries/3)
	turned := func(n int) []api.Entry {
		l := slices.Clone(third)
		for i := range l {
			l[i].ID[0] += byte(n)
		}
		return append(l, file("z", fmt.Sprint(n)))
	}
	if got, err := merge.Trees(third, turned(1), turned(2), nil); err != nil || len(got.Entries) != api.MaxEntries {
		t.Errorf("in conflict: %d entries, %v", len(got.Entries), err)
	}
	refused(t, "in conflict", append(slices.Clone(third), file("z", "")), turned(1), turned(2), nil, api.ErrConflict)
}

// TestTreesOfManyMoves: P1, all files are moved, by one side, by both.
func TestTreesOfManyMoves(t *testing.T) {
	var base, ours, theirs, want []api.Entry
	var blobs, made []api.Object
	for i := range 300 {
		text := fmt.Sprintf("one %d\ntwo %d\nthree %d\nfour %d\n", i, i, i, i)
		mine, yours := "mine\n"+text, text+"yours\n"
		base = append(base, file(fmt.Sprint("a/", i), text))
		ours = append(ours, file(fmt.Sprint("b/", i), mine))
		theirs = append(theirs, file(fmt.Sprint("a/", i), yours))
		want = append(want, file(fmt.Sprint("b/", i), "mine\n"+yours))
		blobs = append(blobs, blob(text), blob(mine), blob(yours))
		made = append(made, blob("mine\n"+yours))
	}
	slices.SortFunc(want, func(x, y api.Entry) int { return strings.Compare(x.Path, y.Path) })
	slices.SortFunc(made, func(x, y api.Object) int {
		a, b := idOf(string(x.Data)), idOf(string(y.Data))
		return bytes.Compare(a[:], b[:])
	})
	if got, err := merge.Trees(base, ours, theirs, blobs); err != nil || !sameMerged(got, api.Merged{Entries: want, Blobs: made}) {
		t.Errorf("%d entries, %d blobs, %v", len(got.Entries), len(got.Blobs), err)
	}
	if got, err := merge.Trees(base, ours, ours, blobs); err != nil || len(got.Entries) != len(ours) || len(got.Blobs) != 0 {
		t.Errorf("both alike: %d entries, %d blobs, %v", len(got.Entries), len(got.Blobs), err)
	}
}
