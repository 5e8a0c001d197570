package wire_test

import (
	"bytes"
	"fmt"
	"slices"
	"testing"

	"gitlike/api"
	"gitlike/wire"
)

// roomy is a list with room behind it, and the whole of it.
func roomy[T any](l []T, behind T) (list, whole []T) {
	whole = append(slices.Clone(l), behind, behind, behind)
	return whole[:len(l)], whole
}

// scribble writes over all of a slice, and over the room behind it.
func scribble[T any](l []T, with T) {
	l = l[:cap(l)]
	for i := range l {
		l[i] = with
	}
}

// leftAlone wants a list, and the room behind it, to be unchanged by a call, which may answer whatever it likes.
func leftAlone[T comparable](t *testing.T, what string, l []T, behind T, call func([]T)) {
	t.Helper()
	list, whole := roomy(l, behind)
	was := slices.Clone(whole)
	call(list)
	if !slices.Equal(whole, was) {
		t.Errorf("%s: %v is changed to %v", what, was, whole)
	}
}

// TestListsAreLeftAlone: lists, right ones and wrong ones, and the room behind them.
func TestListsAreLeftAlone(t *testing.T) {
	marked := api.Ref{Name: "marked", ID: api.ID{0xa5}}
	for _, l := range [][]api.Ref{nil, {{Name: main, ID: one}, {Name: side, ID: two}}, {{Name: side}, {Name: main}}, {{Name: main}, {Name: main}}, {{Name: "x"}}} {
		leftAlone(t, "WriteOffer", l, marked, func(l []api.Ref) { wire.WriteOffer(api.Offer{Head: main, Refs: l}) })
	}
	for _, l := range [][]api.ID{nil, {one, two}, {two, one}, {two, one, two}} {
		leftAlone(t, "WriteWant", l, marked.ID, func(l []api.ID) { wire.WriteWant(l, []api.ID{one}) })
		leftAlone(t, "WriteWant", l, marked.ID, func(l []api.ID) { wire.WriteWant([]api.ID{one}, l) })
		leftAlone(t, "WriteWant", l, marked.ID, func(l []api.ID) { wire.WriteWant(l, l) })
	}
	for _, l := range [][]api.Change{nil, {{Name: side, Old: one}, {Name: main, New: two}}, {{Name: main}, {Name: main}}, {{Name: "x"}}} {
		leftAlone(t, "WritePush", l, api.Change{Name: "marked"}, func(l []api.Change) { wire.WritePush(l, []byte("pack")) })
		leftAlone(t, "WritePush", []byte("pack"), 0xa5, func(pack []byte) { wire.WritePush(l, pack) })
	}
	for _, l := range [][]api.Status{nil, {{Name: side}, {Name: main, Err: 5}}, {{Name: main}, {Name: main}}, {{Name: main, Err: -1}}} {
		leftAlone(t, "WriteStatus", l, api.Status{Name: "marked"}, func(l []api.Status) { wire.WriteStatus(l) })
	}
}

// TestLinesAreLeftAlone: the lines that Pkt is given, and the room behind them and behind each.
func TestLinesAreLeftAlone(t *testing.T) {
	for _, texts := range [][]string{nil, {""}, {"a\n", "", "b"}, {"a", "", string(make([]byte, 1001)), "b"}} {
		lines, whole := roomy(linesOf(texts...), []byte("marked"))
		var rooms [][]byte
		for i := range lines {
			line, room := roomy(lines[i], 0xa5)
			lines[i] = line
			rooms = append(rooms, room)
		}
		was := fmt.Sprintf("%q %q", whole, rooms)
		wire.Pkt(lines)
		if now := fmt.Sprintf("%q %q", whole, rooms); now != was {
			t.Errorf("%s is changed to %s", was, now)
		}
	}
}

// everything is bytes of all kinds that can be read, and some that cannot.
func everything() []string {
	return []string{
		"", "0000", "0005a0000", "x", "0009done\n",
		said("head "+main, hexOne+" "+main, hexTwo+" "+side, ""),
		said("want "+hexOne, "want "+hexTwo, "", "have "+hexTwo, "have "+hexOne, "done"),
		said(hexOne+" "+hexTwo+" "+main, hexTwo+" "+hexOne+" "+side, "") + "some pack",
		said(hexOne+" "+hexTwo+" "+main, ""),
		said("ok "+main, "ng "+side+" 62", ""),
		said("ok "+main, "ng "+side+" 62"),
	}
}

// readAll is all answers of all that read, as a text, and what scribbles over them.
func readAll(b []byte) (text string, spoil func()) {
	lines, err1 := wire.Lines(b)
	offer, err2 := wire.ReadOffer(b)
	want, have, err3 := wire.ReadWant(b)
	changes, pack, err4 := wire.ReadPush(b)
	status, err5 := wire.ReadStatus(b)
	text = fmt.Sprintf("%q %v, %q %v, %x %x %v, %q %q %v, %q %v", lines, err1, showOffer(offer), err2, want, have, err3, showPush(changes, nil), pack, err4, showStatus(status), err5)
	return text, func() {
		for _, l := range lines {
			scribble(l, '?')
		}
		scribble(lines, nil)
		scribble(offer.Refs, api.Ref{Name: "?"})
		scribble(want, api.ID{'?'})
		scribble(have, api.ID{'?'})
		scribble(changes, api.Change{Name: "?"})
		scribble(pack, '?')
		scribble(status, api.Status{Name: "?"})
	}
}

// TestBytesAreLeftAlone: bytes that are read, and the room behind them: by the call, and by who writes over its answer.
func TestBytesAreLeftAlone(t *testing.T) {
	for _, s := range everything() {
		leftAlone(t, "reading", []byte(s), 0xa5, func(b []byte) {
			_, spoil := readAll(b)
			spoil()
		})
	}
}

// TestReadIsNew: what is read does not change when the bytes do, nor when another answer does.
func TestReadIsNew(t *testing.T) {
	for _, s := range everything() {
		b := []byte(s)
		want, spoil := readAll(b)
		spoil()
		again, spoil := readAll(b)
		if again != want {
			t.Errorf("%q: %s, and then %s", s, want, again)
		}
		lines, _ := wire.Lines(b)
		offer, _ := wire.ReadOffer(b)
		wanted, had, _ := wire.ReadWant(b)
		changes, pack, _ := wire.ReadPush(b)
		status, _ := wire.ReadStatus(b)
		was := fmt.Sprint(lines, offer, wanted, had, changes, pack, status)
		spoil()
		scribble(b, '?')
		if now := fmt.Sprint(lines, offer, wanted, had, changes, pack, status); now != was {
			t.Errorf("%q: %s became %s", s, was, now)
		}
	}
}

// TestLinesShareNothing: what is written over one line, and behind it, is not seen in the others; nor in the one list of a want what is written in the other.
func TestLinesShareNothing(t *testing.T) {
	texts := []string{"a", "", "bc", "def", "", "ghij"}
	for i := range texts {
		l, err := wire.Lines([]byte(raw(texts...)))
		if err != nil || len(l) != len(texts) {
			t.Fatal(l, err)
		}
		scribble(l[i], '?')
		_ = append(l[i], "????????????????"...)
		for j, s := range texts {
			if j != i && string(l[j]) != s {
				t.Errorf("line %d is %q", j, l[j])
			}
		}
	}
	ids := []api.ID{one, two, {3}}
	b, err := wire.WriteWant(ids, ids)
	if err != nil {
		t.Fatal(err)
	}
	for range 2 {
		want, have, _ := wire.ReadWant(b)
		scribble(want, api.ID{'?'})
		if !slices.Equal(have, ids) {
			t.Errorf("%x", have)
		}
		want, have, _ = wire.ReadWant(b)
		scribble(have, api.ID{'?'})
		if !slices.Equal(want, ids) {
			t.Errorf("%x", want)
		}
	}
}

// TestWrittenIsNew: what is written does not change when what it was made of does, nor when another answer does.
func TestWrittenIsNew(t *testing.T) {
	line, pack := []byte("line"), []byte("pack")
	writes := []func() ([]byte, error){
		func() ([]byte, error) { return wire.Pkt([][]byte{line}) },
		func() ([]byte, error) { return wire.WriteOffer(api.Offer{Head: main}) },
		func() ([]byte, error) { return wire.WriteWant(nil, nil) },
		func() ([]byte, error) { return wire.WritePush(nil, pack) },
		func() ([]byte, error) { return wire.WriteStatus(nil) },
	}
	for i, write := range writes {
		first, err := write()
		was := bytes.Clone(first)
		other, _ := write()
		scribble(other, '?')
		third, _ := write()
		if err != nil || !bytes.Equal(first, was) || !bytes.Equal(third, was) {
			t.Errorf("%d: %q, %q, %v, not %q", i, first, third, err, was)
		}
		scribble(line, 'l')
		scribble(pack, 'p')
		if !bytes.Equal(first, was) {
			t.Errorf("%d: %q became %q", i, was, first)
		}
	}
	if string(line) != "llll" || string(pack) != "pppp" {
		t.Errorf("%q, %q", line, pack)
	}
}
