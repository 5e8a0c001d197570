package refs_test

import (
	"fmt"
	"strings"
	"testing"

	"gitlike/api"
	"gitlike/refs"
)

// refused wants Update to answer that error, and to change nothing.
func refused(t *testing.T, name string, r *refs.Refs, d *api.Disk, want api.Errno, who api.Person, text string, l ...api.Change) {
	t.Helper()
	before, file := told(r), string(bytesOf(t, d, theFile))
	is(t, name, r.Update(l, who, text), want)
	if told(r) != before || string(bytesOf(t, d, theFile)) != file || len(d.List()) != 1 {
		t.Errorf("%s: something is changed", name)
	}
	bothTell(t, name, r, d)
}

// tangled has a ref of each kind: HEAD leads to refs/heads/main, which is there; refs/x to refs/y, which is not; refs/i and refs/j to each other.
func tangled(t *testing.T, d *api.Disk) *refs.Refs {
	t.Helper()
	r := open(t, d)
	link(t, r, "HEAD", "refs/heads/main")
	link(t, r, "refs/x", "refs/y")
	link(t, r, "refs/i", "refs/j")
	link(t, r, "refs/j", "refs/i")
	update(t, r, "first", from("HEAD", nought, id(1)), from("refs/tags/v", nought, id(2)))
	return r
}

// TestUpdateErrors: 7.4, each error, and which of two is told.
func TestUpdateErrors(t *testing.T) {
	d := roomy()
	r := tangled(t, d)
	nobody := api.Person{Name: "<"}
	good, bad := from("refs/z", nought, id(9)), from("refs/z.lock", nought, id(9))
	loop, stale := from("refs/i", nought, id(9)), from("refs/tags/v", id(3), id(9))
	clash := from("refs/tags/v/w", nought, id(9))
	for _, name := range badNames {
		refused(t, name, r, d, api.ErrName, ann, "", from(name, nought, id(9)))
		refused(t, name, r, d, api.ErrName, ann, "", good, from(name, nought, id(9)))
	}
	refused(t, "a loop", r, d, api.ErrLoop, ann, "", loop)
	refused(t, "a loop behind another one", r, d, api.ErrLoop, ann, "", good, loop)
	refused(t, "a loop ahead of a name", r, d, api.ErrLoop, ann, "", loop, bad)
	refused(t, "a name ahead of a loop", r, d, api.ErrName, ann, "", bad, loop)
	refused(t, "a loop behind one name twice", r, d, api.ErrLoop, ann, "", good, good, loop)
	refused(t, "a name behind one name twice", r, d, api.ErrName, ann, "", good, good, bad)
	refused(t, "one name twice", r, d, api.ErrName, ann, "", good, good)
	refused(t, "one name twice, with others between", r, d, api.ErrName, ann, "", good, from("refs/k", nought, id(1)), good)
	refused(t, "two that lead to one", r, d, api.ErrName, ann, "", from("HEAD", id(1), id(2)), from("refs/heads/main", id(1), id(2)))
	refused(t, "two that lead to one that is not there", r, d, api.ErrName, ann, "", from("refs/y", nought, id(2)), from("refs/x", nought, id(2)))
	refused(t, "one name twice, and stale", r, d, api.ErrName, ann, "", stale, from("HEAD", id(1), id(2)), from("refs/heads/main", id(3), id(2)))
	refused(t, "stale", r, d, api.ErrStale, ann, "", stale)
	refused(t, "stale behind another one", r, d, api.ErrStale, ann, "", good, stale)
	refused(t, "stale through another", r, d, api.ErrStale, ann, "", from("HEAD", id(2), id(1)))
	refused(t, "stale, to be removed", r, d, api.ErrStale, ann, "", from("HEAD", id(2), nought))
	refused(t, "nought where it is there", r, d, api.ErrStale, ann, "", from("HEAD", nought, id(3)))
	refused(t, "nought where it is there, to be removed", r, d, api.ErrStale, ann, "", from("refs/tags/v", nought, nought))
	refused(t, "an id where it is not there", r, d, api.ErrStale, ann, "", from("refs/z", id(1), id(2)))
	refused(t, "an id where what it leads to is not there", r, d, api.ErrStale, ann, "", from("refs/x", id(1), id(2)))
	refused(t, "stale ahead of a clash", r, d, api.ErrStale, ann, "", clash, stale)
	refused(t, "stale ahead of the author", r, d, api.ErrStale, nobody, "", stale)
	refused(t, "a clash", r, d, api.ErrClash, ann, "", clash)
	refused(t, "a clash ahead of the author", r, d, api.ErrClash, nobody, "", clash)
	refused(t, "a clash ahead of the text", r, d, api.ErrClash, ann, "\n", clash)
	refused(t, "the author", r, d, api.ErrAuthor, nobody, "", good)
	refused(t, "the author, and nothing to do", r, d, api.ErrAuthor, nobody, "")
	refused(t, "the text, and nothing to do", r, d, api.ErrAuthor, ann, "\n")
}

// TestClashes: 7.4, refs of which one's name is the beginning of another one's.
func TestClashes(t *testing.T) {
	d := roomy()
	r := tangled(t, d)
	update(t, r, "", from("refs/a/b/c", nought, id(3)))
	made := func(name string) api.Change { return from(name, nought, id(9)) }
	for _, name := range []string{"refs/heads", "refs/tags", "refs/heads/main/x", "refs/tags/v/w/x", "refs/a", "refs/a/b", "refs/a/b/c/d", "refs/i/k", "refs/j/k", "refs/x/y"} {
		refused(t, name, r, d, api.ErrClash, ann, "", made(name))
		refused(t, name+" among others", r, d, api.ErrClash, ann, "", made("refs/k"), made(name), made("refs/z"))
	}
	refused(t, "through what leads on", r, d, api.ErrClash, ann, "", from("refs/x", nought, id(9)), made("refs/y/z"))
	refused(t, "two of one call", r, d, api.ErrClash, ann, "", made("refs/k"), made("refs/k/l"))
	refused(t, "two of one call, the longer one first", r, d, api.ErrClash, ann, "", made("refs/k/l/m"), made("refs/k"))
	refused(t, "two of one call, with one between", r, d, api.ErrClash, ann, "", made("refs/k"), made("refs/k-l"), made("refs/k/l"))
	refused(t, "one is taken away, the other is not", r, d, api.ErrClash, ann, "", from("refs/a/b/c", id(3), nought), made("refs/a"), made("refs/a/b"))
	for _, name := range []string{"refs/k", "refs/k-l", "refs/k.l", "refs/kl", "refs/head", "refs/headsx/a", "refs/heads.x", "refs/a/b/d", "refs/a/b/c-d", "refs/a/bc", "refs/y/z"} {
		update(t, r, "", made(name))
	}
	update(t, r, "swapped", from("refs/a/b/c", id(3), nought), from("refs/a/b/d", id(9), nought), from("refs/a/b/c-d", id(9), nought), made("refs/a/b"))
	update(t, r, "swapped back, the new one first", made("refs/a/b/c"), from("refs/a/b", id(9), nought))
	update(t, r, "swapped through HEAD", from("HEAD", id(1), nought), made("refs/heads/main/x"))
	logs(t, r, "refs/a/b/c", entered(nought, id(9), "swapped back, the new one first"))
	refused(t, "what HEAD leads to", r, d, api.ErrClash, ann, "", made("HEAD"))
	update(t, r, "and back", made("HEAD"), from("refs/heads/main/x", id(9), nought))
	reads(t, r, "HEAD", id(9), api.OK)
	bothTell(t, "clashes", r, d)
}

// TestWriters: 7.4, who and text that can be written, and that cannot.
func TestWriters(t *testing.T) {
	d := roomy()
	r := open(t, d)
	update(t, r, "first", from("refs/a", nought, id(1)))
	sixty, long := strings.Repeat("x", api.MaxPerson), strings.Repeat("t", api.MaxText)
	want := []api.LogEntry{entered(nought, id(1), "first")}
	n := byte(1)
	for _, who := range []api.Person{
		{}, {Name: sixty}, {Mail: sixty}, {Name: "\t"}, {Name: "a\tb", Mail: "\tc\td\t"}, {Name: "a  b", Mail: "é\xff"}, {Time: 1 << 40, Zone: 840}, {Zone: -840}, {Zone: -1}, {Name: "\r", Mail: "\""}, {Name: "a (b)"},
	} {
		for _, text := range []string{"", "text", long, " ", "\t", "\ta\tb\t", "> 5 +0000\tx", "\r", "é\xff\x01", "log refs/a ", "block 0"} {
			e := api.LogEntry{Old: id(n), New: id(n + 1), Who: who, Text: text}
			is(t, fmt.Sprintf("%v %.20q", who, text), r.Update([]api.Change{{Name: "refs/a", Old: e.Old, New: e.New}}, who, text), api.OK)
			want = append(want, e)
			n++
		}
	}
	logs(t, r, "refs/a", want...)
	logs(t, open(t, d), "refs/a", want...)
	if err := r.Pack(); err != nil {
		t.Error(err)
	}
	logs(t, open(t, d), "refs/a", want...)
	change := from("refs/a", id(n), id(1))
	for _, who := range []api.Person{
		{Name: sixty + "x"}, {Mail: sixty + "x"}, {Name: "<"}, {Name: ">"}, {Name: "a\nb"}, {Name: "a\x00"}, {Name: " a"}, {Name: "a "}, {Name: " "}, {Mail: "<"}, {Mail: "a>b"}, {Mail: "\n"}, {Mail: "\x00"}, {Mail: " a"}, {Mail: "a "},
		{Time: -1}, {Time: 1<<40 + 1}, {Time: -1 << 63}, {Time: 1<<63 - 1}, {Zone: 841}, {Zone: -841}, {Zone: -1 << 63},
	} {
		refused(t, fmt.Sprint(who), r, d, api.ErrAuthor, who, "", change)
	}
	for _, text := range []string{long + "t", "\n", "a\nb", "a\n", "\x00", "a\x00b", strings.Repeat("é", api.MaxText/2) + "x", strings.Repeat("x", 1<<20)} {
		refused(t, fmt.Sprintf("%.20q", text), r, d, api.ErrAuthor, ann, text, change)
	}
}

// TestUpdateLogs: 7.4, changes are entered in the logs of all refs on the way.
func TestUpdateLogs(t *testing.T) {
	d := roomy()
	r := open(t, d)
	link(t, r, "refs/x", "HEAD")
	link(t, r, "HEAD", "refs/heads/main")
	one := entered(nought, id(1), "one")
	update(t, r, "one", from("refs/x", nought, id(1)))
	two := entered(id(1), id(2), "two")
	update(t, r, "two", from("refs/heads/main", id(1), id(2)), from("refs/y", nought, id(7)))
	three := entered(id(2), id(3), "three")
	update(t, r, "three", from("refs/y", id(7), id(8)), from("HEAD", id(2), id(3)))
	same := entered(id(3), id(3), "the same")
	update(t, r, "the same", from("HEAD", id(3), id(3)))
	logs(t, r, "refs/x", one)
	logs(t, r, "HEAD", one, three, same)
	logs(t, r, "refs/heads/main", one, two, three, same)
	logs(t, r, "refs/y", entered(nought, id(7), "two"), entered(id(7), id(8), "three"))
	bothTell(t, "logs", r, d)

	gone := entered(id(3), nought, "gone")
	update(t, r, "gone", from("refs/x", id(3), nought))
	noLog(t, r, "refs/heads/main", api.ErrNoRef)
	logs(t, r, "HEAD", one, three, same, gone)
	logs(t, r, "refs/x", one, gone)
	reads(t, r, "HEAD", nought, api.ErrNoRef)
	leads(t, r, "HEAD", "refs/heads/main", api.OK)
	bothTell(t, "gone", r, d)

	still := entered(nought, nought, "still gone")
	update(t, r, "still gone", from("HEAD", nought, nought), from("refs/z", nought, nought))
	logs(t, r, "HEAD", one, three, same, gone, still)
	noLog(t, r, "refs/heads/main", api.ErrNoRef)
	noLog(t, r, "refs/z", api.ErrNoRef)
	logs(t, r, "refs/x", one, gone)

	again := entered(nought, id(4), "again")
	update(t, r, "again", from("HEAD", nought, id(4)))
	logs(t, r, "refs/heads/main", again)
	logs(t, r, "HEAD", one, three, same, gone, still, again)
	bothTell(t, "again", r, d)
	update(t, r, "nothing")
	bothTell(t, "nothing", r, d)
	logs(t, r, "refs/heads/main", again)
}

// TestHeadAlone: 7.4, a HEAD that leads nowhere is a ref like others.
func TestHeadAlone(t *testing.T) {
	d := roomy()
	r := open(t, d)
	update(t, r, "alone", from("HEAD", nought, id(1)))
	logs(t, r, "HEAD", entered(nought, id(1), "alone"))
	leads(t, r, "HEAD", "", api.ErrNoRef)
	lists(t, r, "", api.Ref{Name: "HEAD", ID: id(1)})
	update(t, r, "gone", from("HEAD", id(1), nought))
	noLog(t, r, "HEAD", api.ErrNoRef)
	bothTell(t, "alone", r, d)
}

// TestManyChanges: 7.4, more changes than a repository has refs.
func TestManyChanges(t *testing.T) {
	d := roomy()
	r := open(t, d)
	var made, moved []api.Change
	for i := range 2 * api.MaxRefs {
		name := fmt.Sprintf("refs/heads/%d/x", i)
		made = append(made, from(name, nought, id(byte(i%200+1))))
		moved = append(moved, from(name, id(byte(i%200+1)), id(byte(i%200+2))))
	}
	update(t, r, "made", made...)
	update(t, r, "moved", moved...)
	r = open(t, d)
	if l := r.List("refs/heads/"); len(l) != 2*api.MaxRefs {
		t.Errorf("%d refs", len(l))
	}
	for _, c := range moved {
		reads(t, r, c.Name, c.New, api.OK)
		logs(t, r, c.Name, entered(nought, c.Old, "made"), entered(c.Old, c.New, "moved"))
	}
}
