package wire_test

import (
	"fmt"
	"strings"
	"testing"

	"gitlike/api"
	"gitlike/wire"
)

func showWant(want, have []api.ID) string {
	return strings.Join(concat(ahead("want=", hexes(want)), ahead("have=", hexes(have))), ",")
}

var wants = talk{"ReadWant", func(b []byte) (string, error) {
	want, have, err := wire.ReadWant(b)
	return showWant(want, have), err
}}

// wantText is a want as 12.4 says.
func wantText(want, have []api.ID) string {
	return said(concat(ahead("want ", hexes(want)), []string{""}, ahead("have ", hexes(have)), []string{"done"})...)
}

// TestWants: 12.4, what is written, to the byte, and read back; in whatever order.
func TestWants(t *testing.T) {
	for _, c := range []struct {
		want, have []api.ID
		text       string
	}{
		{nil, nil, "0000" + "0009done\n"},
		{[]api.ID{}, []api.ID{}, "0000" + "0009done\n"},
		{[]api.ID{one}, nil, "0032want " + hexOne + "\n" + "0000" + "0009done\n"},
		{nil, []api.ID{one}, "0000" + "0032have " + hexOne + "\n" + "0009done\n"},
		{[]api.ID{one}, []api.ID{one}, said("want "+hexOne, "", "have "+hexOne, "done")},
		{[]api.ID{two, one}, []api.ID{one, two}, said("want "+hexTwo, "want "+hexOne, "", "have "+hexOne, "have "+hexTwo, "done")},
		{[]api.ID{one, two}, []api.ID{two, one, {}}, said("want "+hexOne, "want "+hexTwo, "", "have "+hexTwo, "have "+hexOne, "have "+hexNought, "done")},
		{[]api.ID{{}}, nil, said("want "+hexNought, "", "done")},
	} {
		b, err := wire.WriteWant(c.want, c.have)
		wrote(t, showWant(c.want, c.have), b, err, c.text)
		wants.good(t, c.text, showWant(c.want, c.have))
	}
}

// TestWantsTwice: 12.4, an id twice in one list.
func TestWantsTwice(t *testing.T) {
	three := api.ID{3}
	for _, l := range [][]api.ID{{one, one}, {{}, {}}, {one, two, one}, {one, two, two}, {one, one, two}, {three, one, two, three}} {
		for _, c := range [][2][]api.ID{{l, nil}, {nil, l}, {l, l}, {l, {one}}, {{one}, l}} {
			b, err := wire.WriteWant(c[0], c[1])
			refused(t, showWant(c[0], c[1]), b, err)
			wants.bad(t, api.ErrTalk, wantText(c[0], c[1]))
		}
	}
}

// TestManyWanted: 12.4, each list has at most MaxObjects ids.
func TestManyWanted(t *testing.T) {
	most, more := numberedIDs(api.MaxObjects), numberedIDs(api.MaxObjects+1)
	for _, c := range [][2][]api.ID{{most, nil}, {nil, most}, {most, most}, {most[1:], most}} {
		text := wantText(c[0], c[1])
		b, err := wire.WriteWant(c[0], c[1])
		wrote(t, fmt.Sprint(len(c[0]), len(c[1])), b, err, text)
		wants.good(t, text, showWant(c[0], c[1]))
	}
	for _, c := range [][2][]api.ID{{more, nil}, {nil, more}, {most, more}, {more, most}, {numberedIDs(40000), nil}} {
		b, err := wire.WriteWant(c[0], c[1])
		refused(t, fmt.Sprint(len(c[0]), len(c[1])), b, err)
		wants.bad(t, api.ErrTalk, wantText(c[0], c[1]))
	}
}

// TestNoWants: 12.2 and 12.4, packet lines that are no want.
func TestNoWants(t *testing.T) {
	want, have := "want "+hexOne, "have "+hexTwo
	wants.bad(t, api.ErrTalk, "",
		// The flush is missing, or is elsewhere, or more than one.
		said("done"), said(want, "done"), said(have, "done"), said(want, have, "done"), said(want, have, "", "done"), said(want, have, "done", ""), said("", "", "done"), said(want, "", "", "done"), said(want, "", have, "", "done"), said("", want, "done"), said("", want, "", "done"), said(want, "x", have, "done"), said(want, "done", "", have),
		// There is no done, or more behind it, or it is elsewhere.
		said(""), said(want, ""), said("", have), said(want, "", have), said("", "done", ""), said("", "done", "done"), said(want, "", have, "done", ""), said(want, "", have, "done", have), said(want, "", "done", have), said("done", ""), said("done", "", "done"), said("done", want, ""), said(want, "", have, "done", "x"), said("", "x"), said(want, "", have, "x"),
		// The one list is where the other should be.
		said(have, "", "done"), said("", want, "done"), said(have, "", want, "done"), said(want, "", want, "done"), said(want, "", have, "want "+hexTwo, "done"), said(want, "", "want "+hexTwo, have, "done"), said(have, want, "", "done"),
		// Words and ids that are none.
		said("want", "", "done"), said("want ", "", "done"), said(hexOne, "", "done"), said("", hexOne, "done"), said(" "+hexOne, "", "done"), said("Want "+hexOne, "", "done"), said("want  "+hexOne, "", "done"), said(" want "+hexOne, "", "done"), said("want "+hexOne+" ", "", "done"), said("want "+hexOne[1:], "", "done"), said("want "+hexOne+"0", "", "done"), said("want "+strings.Repeat("F", 40), "", "done"), said("want "+hexOne[:39]+"g", "", "done"), said("want"+hexOne, "", "done"), said("want\t"+hexOne, "", "done"), said("want want "+hexOne, "", "done"), said("", "have have "+hexOne, "done"), said("", "Have "+hexOne, "done"), said("", "have", "done"), said("", "have "+hexOne+" x", "done"), said("", "Done"), said("", "done "), said("", " done"), said("", "don"), said("", "donee"), said(want, "x", "", "done"), said("x", want, "", "done"), said("", "x", have, "done"), said("", have, "x", "done"),
		// A line has no end, or two, or another one, or nothing else.
		raw("", "done"), raw(want, "", "done\n"), raw("", have, "done\n"), raw(want+"\n", "", "done"), raw(want, "", have, "done"), said("", "done\n"), said(want+"\n", "", "done"), said("", have+"\n", "done"), said("", "done\r"), raw("", "done\r"), raw("\n", "done\n"), raw("\n", "", "done\n"), raw("", "\n", "done\n"), raw("", "done\n", "\n"), raw("", "\ndone\n"), raw(want+"\nwant "+hexTwo+"\n", "", "done\n"), raw("", have+"\ndone\n"),
	)
}

// TestWantsInNoLines: 12.2, bytes that are no packet lines, whatever else is wrong with them.
func TestWantsInNoLines(t *testing.T) {
	whole := said("want "+hexOne, "", "have "+hexTwo, "done")
	for _, front := range []string{"", whole, said("x"), said("done"), said("", "done"), said("want "+hexOne, "want "+hexOne)} {
		wants.bad(t, api.ErrWire, noLines(front)...)
	}
	for i, s := range without(whole) {
		if i == 0 || i == 50 || i == 54 || i == 104 {
			wants.bad(t, api.ErrTalk, s)
		} else {
			wants.bad(t, api.ErrWire, s)
		}
	}
}
