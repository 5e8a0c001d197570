package wire_test

import (
	"bytes"
	"fmt"
	"strings"
	"testing"

	"gitlike/api"
	"gitlike/wire"
)

func showPush(l []api.Change, pack []byte) string {
	var s []string
	for _, c := range l {
		s = append(s, fmt.Sprintf("%s:%x>%x", c.Name, c.Old[:], c.New[:]))
	}
	if len(pack) > 0 {
		s = append(s, fmt.Sprintf("pack=%q", pack))
	}
	return strings.Join(s, ",")
}

var pushes = talk{"ReadPush", func(b []byte) (string, error) {
	l, pack, err := wire.ReadPush(b)
	return showPush(l, pack), err
}}

// packs are bytes behind a push's flush: it is all one what they are.
func packs() []string {
	return []string{"", "P", "PACK", "0000", "00000000", "0005a0000", "0004", "000", "0005", "ffff", "\n", "\x00", "\x00\xff\n", said("x"), said(hexOne+" "+hexTwo+" "+main, ""), said("done"), strings.Repeat("0000", 1000), strings.Repeat("\xff", 100000)}
}

// TestPushes: 12.5, what is written, to the byte, and read back, with each pack; in whatever order.
func TestPushes(t *testing.T) {
	for _, c := range []struct {
		want string
		l    []api.Change
	}{
		{"0000", nil},
		{"0000", []api.Change{}},
		{"0066" + hexOne + " " + hexTwo + " refs/heads/main\n0000", []api.Change{{Name: main, Old: one, New: two}}},
		{"005b" + hexNought + " " + hexOne + " HEAD\n0000", []api.Change{{Name: "HEAD", New: one}}},
		{said(hexOne+" "+hexNought+" "+main, ""), []api.Change{{Name: main, Old: one}}},
		{said(hexNought+" "+hexNought+" "+main, ""), []api.Change{{Name: main}}},
		{said(hexOne+" "+hexOne+" "+longName, ""), []api.Change{{Name: longName, Old: one, New: one}}},
		{said(hexOne+" "+hexTwo+" "+side, hexOne+" "+hexTwo+" "+main, hexTwo+" "+hexOne+" HEAD", ""), []api.Change{{Name: side, Old: one, New: two}, {Name: main, Old: one, New: two}, {Name: "HEAD", Old: two, New: one}}},
		{said(hexOne+" "+hexTwo+" refs/a", hexTwo+" "+hexOne+" refs/A", hexOne+" "+hexTwo+" refs/a/b", ""), []api.Change{{Name: "refs/a", Old: one, New: two}, {Name: "refs/A", Old: two, New: one}, {Name: "refs/a/b", Old: one, New: two}}},
	} {
		for _, pack := range packs() {
			b, err := wire.WritePush(c.l, []byte(pack))
			wrote(t, showPush(c.l, nil), b, err, c.want+pack)
			pushes.good(t, c.want+pack, showPush(c.l, []byte(pack)))
		}
		b, err := wire.WritePush(c.l, nil)
		wrote(t, "no pack", b, err, c.want)
	}
}

// TestPushesRefused: 12.5, names that are none, or twice.
func TestPushesRefused(t *testing.T) {
	for _, name := range noNames() {
		for _, l := range [][]api.Change{{{Name: name, Old: one, New: two}}, {{Name: main, New: one}, {Name: name, New: one}}, {{Name: name, New: one}, {Name: main, New: one}}} {
			b, err := wire.WritePush(l, []byte("pack"))
			refused(t, fmt.Sprintf("a ref %.99q", name), b, err)
		}
		if len(name) < api.MaxPkt-100 {
			pushes.bad(t, api.ErrTalk, said(hexOne+" "+hexTwo+" "+name, ""), said(hexOne+" "+hexTwo+" "+name, "")+"pack", said(hexOne+" "+hexTwo+" "+main, hexOne+" "+hexTwo+" "+name, ""))
		}
	}
	for _, names := range []string{"refs/a refs/a", "refs/a refs/b refs/a", "refs/b refs/a refs/a", "HEAD HEAD"} {
		var l []api.Change
		var texts []string
		for i, name := range strings.Fields(names) {
			id := api.ID{byte(i)}
			l = append(l, api.Change{Name: name, Old: id, New: two})
			texts = append(texts, fmt.Sprintf("%x %s %s", id[:], hexTwo, name))
		}
		b, err := wire.WritePush(l, nil)
		refused(t, names, b, err)
		pushes.bad(t, api.ErrTalk, said(append(texts, "")...), said(append(texts, "")...)+"pack")
	}
}

// TestManyPushed: 12.5, at most MaxRefs.
func TestManyPushed(t *testing.T) {
	for _, n := range []int{api.MaxRefs - 1, api.MaxRefs, api.MaxRefs + 1, 20 * api.MaxRefs} {
		var l []api.Change
		for _, name := range numbered(n) {
			l = append(l, api.Change{Name: name, Old: one, New: two})
		}
		text := said(concat(ahead(hexOne+" "+hexTwo+" ", numbered(n)), []string{""})...) + "pack"
		b, err := wire.WritePush(l, []byte("pack"))
		if n > api.MaxRefs {
			refused(t, fmt.Sprint(n, " changes"), b, err)
			pushes.bad(t, api.ErrTalk, text)
		} else {
			wrote(t, fmt.Sprint(n, " changes"), b, err, text)
			pushes.good(t, text, showPush(l, []byte("pack")))
		}
	}
}

// TestNoPushes: 12.2 and 12.5, packet lines up to a flush that are no push, whatever is behind it.
func TestNoPushes(t *testing.T) {
	change := hexOne + " " + hexTwo + " " + main
	for _, s := range []string{
		said("x", ""), said(main, ""), said(hexOne, ""), said(hexOne+" "+main, ""), said(hexOne+" "+hexTwo, ""), said(hexOne+" "+hexTwo+" ", ""), said(hexOne+" "+hexTwo+"  "+main, ""), said(hexOne+"  "+hexTwo+" "+main, ""), said(" "+change, ""), said(change+" ", ""), said(change+" x", ""), said(hexOne+hexTwo+main, ""), said(hexOne+hexTwo+" "+main, ""), said(hexOne+"\t"+hexTwo+" "+main, ""), said(main+" "+hexOne+" "+hexTwo, ""),
		said(hexOne[1:]+" "+hexTwo+" "+main, ""), said(hexOne+"0 "+hexTwo+" "+main, ""), said(hexOne+" "+hexTwo[1:]+" "+main, ""), said(hexOne+" 0"+hexTwo+" "+main, ""), said(strings.Repeat("A", 40)+" "+hexTwo+" "+main, ""), said(hexOne+" "+strings.ToUpper(hexTwo)+" "+main, ""), said("g"+hexOne[1:]+" "+hexTwo+" "+main, ""), said(hexOne+" x"+hexTwo[1:]+" "+main, ""), said("0 "+hexTwo+" "+main, ""), said(hexOne+" 0 "+main, ""),
		said("x", change, ""), said(change, "x", ""), said(change, "done", ""), said("head "+main, ""), said("push "+change, ""), said(change, hexOne+" "+side, ""),
		raw(change, ""), raw(change+"\n", hexOne+" "+hexTwo+" "+side, ""), said(change+"\n", ""), said(change+"\r", ""), raw(change+"\r", ""), raw(change+"\x00", ""), raw("\n", ""), raw("\n"+change+"\n", ""), raw(change+"\n", "\n", ""), raw("\n", change+"\n", ""), raw(change+"\n"+hexOne+" "+hexTwo+" "+side+"\n", ""),
	} {
		for _, pack := range packs() {
			pushes.bad(t, api.ErrTalk, s+pack)
		}
	}
}

// TestPushesInNoLines: 12.2, bytes that are no packet lines up to a flush, or have no flush, whatever else is wrong with them.
func TestPushesInNoLines(t *testing.T) {
	whole := said(hexOne+" "+hexTwo+" "+main, "")
	for _, front := range []string{"", whole[:len(whole)-4], said("x"), raw("\n"), raw("0000"), said(hexOne+" "+hexTwo+" "+main, hexOne+" "+hexTwo+" "+main)} {
		pushes.bad(t, api.ErrWire, front)
		pushes.bad(t, api.ErrWire, noLines(front)...)
		pushes.bad(t, api.ErrWire, ahead(front+"0004", packs())...)
	}
	pushes.bad(t, api.ErrWire, without(whole)...)
	pushes.good(t, whole, showPush([]api.Change{{Name: main, Old: one, New: two}}, nil))
	long := bytes.Repeat([]byte("0005\n"), 300000)
	pushes.bad(t, api.ErrWire, string(long), string(long)+"000")
	pushes.bad(t, api.ErrTalk, string(long)+"0000")
}
