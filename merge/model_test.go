package merge_test

import (
	"fmt"
	"math/rand"
	"slices"
	"sort"
	"strings"
	"testing"

	"gitlike/api"
	"gitlike/diff"
	"gitlike/merge"
	"gitlike/stage"
)

// These are the chapter's words once more, as plainly as can be, however long that takes.

// line is a line of a text, and which line of base it is (-1: none).
type line struct {
	text string
	base int
}

// linesOf is the lines of a side.
func linesOf(base, side string) []line {
	var l []line
	at := 0
	for _, e := range diff.Edits([]byte(base), []byte(side)) {
		if e.Kind == api.Keep {
			l = append(l, line{e.Line, at})
		}
		if e.Kind == api.Insert {
			l = append(l, line{e.Line, -1})
		}
		if e.Kind != api.Insert {
			at++
		}
	}
	return l
}

// part is the pieces of a text, and the firm lines between them.
func part(l []line, firm map[int]bool) (pieces, between []string) {
	pieces = []string{""}
	for _, x := range l {
		if firm[x.base] {
			between = append(between, x.text)
			pieces = append(pieces, "")
		} else {
			pieces[len(pieces)-1] += x.text
		}
	}
	return pieces, between
}

// plainTexts is 11.1.
func plainTexts(base, ours, theirs, a, b string) (string, int) {
	kept := map[int]int{}
	for _, x := range append(linesOf(base, ours), linesOf(base, theirs)...) {
		kept[x.base]++
	}
	firm := map[int]bool{}
	for i := range diff.Lines([]byte(base)) {
		firm[i] = kept[i] == 2
	}
	inBase, lines := part(linesOf(base, base), firm)
	inOurs, _ := part(linesOf(base, ours), firm)
	inTheirs, _ := part(linesOf(base, theirs), firm)
	ended := func(s string) string {
		if s != "" && !strings.HasSuffix(s, "\n") {
			return s + "\n"
		}
		return s
	}
	text, conflicts := "", 0
	for i, f := range inBase {
		switch o, t := inOurs[i], inTheirs[i]; {
		case o == t:
			text += o
		case o == f:
			text += t
		case t == f:
			text += o
		default:
			text += "<<<<<<< " + a + "\n" + ended(o) + "=======\n" + ended(t) + ">>>>>>> " + b + "\n"
			conflicts++
		}
		if i < len(lines) {
			text += lines[i]
		}
	}
	return text, conflicts
}

// plainOf is which file of a side a file of base is, if there is one.
func plainOf(f api.Entry, side []api.Entry, turns []api.Turn) *api.Entry {
	for _, e := range side {
		if e.Path == f.Path {
			return &e
		}
	}
	for _, x := range turns {
		if x.From == f && x.To.Path != "" {
			return &x.To
		}
	}
	return nil
}

// plainChoice is 0, if there is a conflict, else 2 (o's) or 3 (t's).
func plainChoice(f, o, t string) int {
	if o == t {
		return 2
	}
	if o == f {
		return 3
	}
	if t == f {
		return 2
	}
	return 0
}

// plainTrees is 11.2. It counts in told what became of files.
func plainTrees(base, ours, theirs []api.Entry, blobs []api.Object, told map[string]int) (api.Merged, api.Errno) {
	for _, l := range [][]api.Entry{base, ours, theirs} {
		if _, err := stage.Write(l); err != nil {
			return api.Merged{}, api.Tell(err)
		}
		for _, e := range l {
			if e.Stage != 0 {
				return api.Merged{}, api.ErrMerge
			}
		}
	}
	toOurs, _ := diff.Turns(base, ours, blobs, 50)
	toTheirs, _ := diff.Turns(base, theirs, blobs, 50)
	var m api.Merged
	made := map[string]bool{}
	add := func(e api.Entry, path string, stage int) {
		e.Path, e.Stage = path, stage
		m.Entries = append(m.Entries, e)
	}
	newOurs, newTheirs := slices.Clone(ours), slices.Clone(theirs)
	for _, f := range base {
		o, t := plainOf(f, ours, toOurs), plainOf(f, theirs, toTheirs)
		newOurs = slices.DeleteFunc(newOurs, func(e api.Entry) bool { return o != nil && e == *o })
		newTheirs = slices.DeleteFunc(newTheirs, func(e api.Entry) bool { return t != nil && e == *t })
		switch {
		case o != nil && t != nil:
			e, text, kind := plainBoth(f, *o, *t, blobs)
			told[kind]++
			switch {
			case kind == "paths":
				add(f, f.Path, 1)
				add(*o, o.Path, 2)
				add(*t, t.Path, 3)
			case e.Mode == 0:
				add(f, e.Path, 1)
				add(*o, e.Path, 2)
				add(*t, e.Path, 3)
			default:
				add(e, e.Path, 0)
			}
			if kind == "text" {
				made[text] = true
			}
		case o == nil && t == nil:
			told["dropped by both"]++
		default:
			e, n := o, 2
			if o == nil {
				e, n = t, 3
			}
			if e.Path == f.Path && e.Mode == f.Mode && e.ID == f.ID {
				told["dropped"]++
				continue
			}
			told["dropped and changed"]++
			add(f, e.Path, 1)
			add(*e, e.Path, n)
		}
	}
	plainNew(newOurs, newTheirs, add, told)
	sort.Slice(m.Entries, func(i, k int) bool {
		x, y := m.Entries[i], m.Entries[k]
		return x.Path < y.Path || x.Path == y.Path && x.Stage < y.Stage
	})
	for text := range made {
		m.Blobs = append(m.Blobs, blob(text))
	}
	sort.Slice(m.Blobs, func(i, k int) bool {
		return fmt.Sprintf("%x", idOf(string(m.Blobs[i].Data))) < fmt.Sprintf("%x", idOf(string(m.Blobs[k].Data)))
	})
	if _, err := stage.Write(m.Entries); err != nil {
		return api.Merged{}, api.ErrConflict
	}
	return m, api.OK
}

// plainBoth is the entry of a file that is there on both sides. If that is in conflict, it has no mode.
func plainBoth(f, o, t api.Entry, blobs []api.Object) (e api.Entry, text, kind string) {
	sides := []api.Entry{{}, {}, o, t}
	path := plainChoice(f.Path, o.Path, t.Path)
	mode := plainChoice(fmt.Sprint(f.Mode), fmt.Sprint(o.Mode), fmt.Sprint(t.Mode))
	id := plainChoice(fmt.Sprint(f.ID), fmt.Sprint(o.ID), fmt.Sprint(t.ID))
	if path == 0 {
		return e, "", "paths"
	}
	e.Path = sides[path].Path
	e.ID, e.Size = sides[id].ID, sides[id].Size
	kind = "merged"
	if f.Path != e.Path {
		kind = "moved"
	}
	if id == 0 {
		var data []string
		for _, x := range []api.Entry{f, o, t} {
			for _, b := range blobs {
				if x.Mode != api.LinkMode && b.Kind == api.Blob && len(b.Data) <= api.MaxBlob && idOf(string(b.Data)) == x.ID {
					data = append(data, string(b.Data))
					break
				}
			}
		}
		if len(data) < 3 {
			return api.Entry{Path: e.Path}, "", "ids"
		}
		made, n := plainTexts(data[0], data[1], data[2], "ours", "theirs")
		if n > 0 {
			return api.Entry{Path: e.Path}, "", "texts"
		}
		text, kind = made, "text"
		e.ID, e.Size = idOf(made), len(made)
	}
	if mode == 0 {
		return api.Entry{Path: e.Path}, "", "modes"
	}
	e.Mode = sides[mode].Mode
	return e, text, kind
}

// plainNew is what becomes of new files: those of ours, then those of theirs.
func plainNew(ours, theirs []api.Entry, add func(e api.Entry, path string, stage int), told map[string]int) {
	for _, e := range ours {
		other := slices.IndexFunc(theirs, func(x api.Entry) bool { return x.Path == e.Path })
		switch {
		case other < 0:
			told["new"]++
			add(e, e.Path, 0)
		case theirs[other].Mode == e.Mode && theirs[other].ID == e.ID:
			told["new, alike"]++
			add(e, e.Path, 0)
		default:
			told["new, otherwise"]++
			add(e, e.Path, 2)
			add(theirs[other], e.Path, 3)
		}
	}
	for _, e := range theirs {
		if !slices.ContainsFunc(ours, func(x api.Entry) bool { return x.Path == e.Path }) {
			told["new"]++
			add(e, e.Path, 0)
		}
	}
}

// lotText is a text of a few lines, of which many are the same.
func lotText(lot *rand.Rand) string {
	var b strings.Builder
	for range lot.Intn(14) {
		b.WriteString([]string{"", "a", "b", "c", "d", "e", "f", "=======", "<<<<<<< A"}[lot.Intn(1+lot.Intn(9))] + "\n")
	}
	if lot.Intn(3) == 0 {
		b.WriteString([]string{"a", "b", "\r"}[lot.Intn(3)])
	}
	return b.String()
}

// changedText is a text with a few of its lines dropped, inserted, moved, and perhaps with another end.
func changedText(lot *rand.Rand, s string, most int) string {
	l := diff.Lines([]byte(s))
	for range lot.Intn(most + 1) {
		at := lot.Intn(len(l) + 1)
		switch lot.Intn(5) {
		case 0:
			l = slices.Insert(l, lot.Intn(len(l)+1), l[:min(1, len(l))]...)
			l = l[min(1, len(l)):]
		case 1, 2:
			l = slices.Delete(l, at, min(at+1, len(l)))
		default:
			l = slices.Insert(l, at, []string{"x\n", "y\n", "a\n", "b\n"}[lot.Intn(4)])
		}
	}
	s = strings.Join(l, "")
	switch lot.Intn(8) {
	case 0:
		return strings.TrimSuffix(s, "\n")
	case 1:
		return s + "\n"
	}
	return s
}

// TestTextsByLot: 11.1, by what the chapter says, and the other way round.
func TestTextsByLot(t *testing.T) {
	lot := rand.New(rand.NewSource(20))
	told := map[int]int{}
	for range 20000 {
		base := lotText(lot)
		most := 1 + lot.Intn(4)
		ours, theirs := changedText(lot, base, most), changedText(lot, base, most)
		if lot.Intn(10) == 0 {
			theirs = lotText(lot)
		}
		want, n := plainTexts(base, ours, theirs, "A", "B")
		if got, conflicts := merge.Texts([]byte(base), []byte(ours), []byte(theirs), "A", "B"); string(got) != want || conflicts != n {
			t.Fatalf("Texts(%q, %q, %q): %q, %d, not %q, %d", base, ours, theirs, got, conflicts, want, n)
		}
		back, again := merge.Texts([]byte(base), []byte(theirs), []byte(ours), "A", "B")
		if again != n || n == 0 && string(back) != want || len(back) != len(want) {
			t.Fatalf("Texts(%q, %q, %q): %q, the other way round %q", base, ours, theirs, want, back)
		}
		if ours != base && theirs != base && ours != theirs {
			told[n]++
		}
	}
	if told[0] < 2000 || told[1] < 2000 || told[2] < 500 || told[3] < 30 {
		t.Errorf("texts by their conflicts: %v", told)
	}
}

// paths is where files by lot are.
var paths = []string{"a", "b", "c/d", "c.d", "c0", "e", "f/g/h", "f/i", "j"}

// lotFiles is files at some of a few paths.
func lotFiles(lot *rand.Rand, texts []string) []api.Entry {
	var l []api.Entry
	for _, path := range paths {
		if lot.Intn(2) == 0 {
			l = append(l, lotMode(lot, file(path, texts[lot.Intn(len(texts))])))
		}
	}
	return l
}

func lotMode(lot *rand.Rand, e api.Entry) api.Entry {
	e.Mode = []api.Mode{api.FileMode, api.FileMode, api.ExecMode, api.LinkMode}[lot.Intn(4)]
	return e
}

// changedFiles is files with a few of them dropped, moved, changed, and new ones.
func changedFiles(lot *rand.Rand, base []api.Entry, texts []string) []api.Entry {
	l := slices.Clone(base)
	for range lot.Intn(6) {
		path := append(paths, "n", "n/o", "c")[lot.Intn(len(paths)+3)]
		free := !slices.ContainsFunc(l, func(e api.Entry) bool { return e.Path == path })
		at := 0
		if len(l) > 0 {
			at = lot.Intn(len(l))
		}
		switch kind := lot.Intn(8); {
		case kind == 0 && free:
			l = append(l, lotMode(lot, file(path, texts[lot.Intn(len(texts))])))
		case len(l) == 0:
		case kind == 1:
			l = slices.Delete(l, at, at+1)
		case kind <= 3 && free:
			l[at].Path = path
		case kind == 4:
			l[at] = lotMode(lot, l[at])
		default:
			l[at].ID = idOf(texts[lot.Intn(len(texts))])
		}
	}
	for i := range l {
		l[i].Size = lot.Intn(4)
	}
	if len(l) > 0 && lot.Intn(40) == 0 {
		spoil(lot, &l[lot.Intn(len(l))])
	}
	lot.Shuffle(len(l), func(i, k int) { l[i], l[k] = l[k], l[i] })
	return l
}

// spoil lets a file be wrong, or not merged.
func spoil(lot *rand.Rand, e *api.Entry) {
	switch lot.Intn(4) {
	case 0:
		e.Path = []string{"a", "c", "", "e/"}[lot.Intn(4)]
	case 1:
		e.Mode = api.DirMode
	default:
		e.Stage = 1 + lot.Intn(4)
	}
}

// turned is entries with the stages of both sides exchanged, and without sizes: ours come first there.
func turned(l []api.Entry) []api.Entry {
	l = slices.Clone(l)
	for i, e := range l {
		l[i].Size = 0
		if e.Stage > 1 {
			l[i].Stage = 5 - e.Stage
		}
	}
	slices.SortFunc(l, func(x, y api.Entry) int {
		if x.Path != y.Path {
			return strings.Compare(x.Path, y.Path)
		}
		return x.Stage - y.Stage
	})
	return l
}

// TestTreesByLot: 11.2, by what the chapter says; and P16, it is all one which of both is ours.
func TestTreesByLot(t *testing.T) {
	lot := rand.New(rand.NewSource(21))
	told := map[string]int{}
	for range 10000 {
		texts := []string{"1\n2\n3\n4\n5\n" + lotText(lot)}
		for range 6 {
			texts = append(texts, changedText(lot, texts[lot.Intn(len(texts))], 2))
		}
		base := changedFiles(lot, lotFiles(lot, texts), texts)
		alike := base
		if lot.Intn(3) == 0 {
			alike = changedFiles(lot, base, texts)
		}
		ours, theirs := changedFiles(lot, alike, texts), changedFiles(lot, alike, texts)
		var blobs []api.Object
		for _, s := range texts {
			if lot.Intn(12) > 0 {
				blobs = append(blobs, blob(s))
			}
		}
		blobs = append(blobs, api.Object{Kind: api.Tree}, api.Object{Kind: 5, Data: []byte(texts[0])})
		got, err := merge.Trees(base, ours, theirs, blobs)
		want, code := plainTrees(base, ours, theirs, blobs, told)
		told[fmt.Sprint(code)]++
		if api.Tell(err) != code || !sameMerged(got, want) {
			t.Fatalf("Trees(%s; %s; %s; %q): %s, %s, %v\nnot %s, %s, %v", show(base), show(ours), show(theirs), texts, show(got.Entries), showBlobs(got.Blobs), err, show(want.Entries), showBlobs(want.Blobs), code)
		}
		if code != api.OK && code != api.ErrConflict {
			continue
		}
		back, err := merge.Trees(base, theirs, ours, blobs)
		if api.Tell(err) != code || !slices.Equal(turned(back.Entries), turned(turned(got.Entries))) || !sameMerged(api.Merged{Blobs: back.Blobs}, api.Merged{Blobs: got.Blobs}) {
			t.Fatalf("Trees(%s; %s; %s; %q): %s, %v\nthe other way round %s", show(base), show(ours), show(theirs), texts, show(got.Entries), code, show(back.Entries))
		}
	}
	for what, least := range map[string]int{
		fmt.Sprint(api.OK): 5000, fmt.Sprint(api.ErrConflict): 200, fmt.Sprint(api.ErrPath): 20, fmt.Sprint(api.ErrStage): 50, fmt.Sprint(api.ErrMerge): 100,
		"paths": 200, "modes": 20, "ids": 200, "texts": 200, "text": 100, "merged": 5000, "moved": 1000, "dropped": 200, "dropped by both": 20, "dropped and changed": 100, "new": 500, "new, alike": 50, "new, otherwise": 20,
	} {
		if told[what] < least {
			t.Errorf("%s: %d times only", what, told[what])
		}
	}
}
