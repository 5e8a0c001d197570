package wire_test

import (
	"fmt"
	"slices"
	"strings"
	"testing"

	"gitlike/api"
	"gitlike/wire"
)

// showOffer: an offer that says nothing is an empty text.
func showOffer(o api.Offer) string {
	var l []string
	if o.Head != "" {
		l = append(l, "head="+o.Head)
	}
	for _, r := range o.Refs {
		l = append(l, fmt.Sprintf("%s=%x", r.Name, r.ID[:]))
	}
	return strings.Join(l, ",")
}

var offers = talk{"ReadOffer", func(b []byte) (string, error) {
	o, err := wire.ReadOffer(b)
	return showOffer(o), err
}}

// TestOffers: 12.3, what is written, to the byte, and read back.
func TestOffers(t *testing.T) {
	for _, c := range []struct {
		want string
		o    api.Offer
	}{
		{"0000", api.Offer{}},
		{"0000", api.Offer{Refs: []api.Ref{}}},
		{"0019head refs/heads/main\n0000", api.Offer{Head: main}},
		{"000ehead HEAD\n0000", api.Offer{Head: "HEAD"}},
		{"000ehead HEAD\n0032" + hexOne + " HEAD\n0000", api.Offer{Head: "HEAD", Refs: []api.Ref{{Name: "HEAD", ID: one}}}},
		{"003d" + hexOne + " refs/heads/main\n0000", api.Offer{Refs: []api.Ref{{Name: main, ID: one}}}},
		{said(hexNought+" "+main, ""), api.Offer{Refs: []api.Ref{{Name: main}}}},
		{said("head "+main, hexOne+" "+main, hexTwo+" "+side, ""), api.Offer{Head: main, Refs: []api.Ref{{Name: main, ID: one}, {Name: side, ID: two}}}},
		{said("head "+side, hexOne+" "+main, ""), api.Offer{Head: side, Refs: []api.Ref{{Name: main, ID: one}}}},
		{said(hexOne+" "+main, hexOne+" "+side, ""), api.Offer{Refs: []api.Ref{{Name: main, ID: one}, {Name: side, ID: one}}}},
		{said("head "+longName, hexTwo+" "+longName, ""), api.Offer{Head: longName, Refs: []api.Ref{{Name: longName, ID: two}}}},
		// By bytes: great letters ahead of small ones, - and . ahead of /, a front ahead of what is longer.
		{said(hexOne+" HEAD", hexOne+" refs/A", hexOne+" refs/a", hexOne+" refs/a-b", hexOne+" refs/a.b", hexOne+" refs/a/b", hexOne+" refs/a0", hexOne+" refs/aA", hexOne+" refs/aa", ""), api.Offer{Refs: []api.Ref{{Name: "HEAD", ID: one}, {Name: "refs/A", ID: one}, {Name: "refs/a", ID: one}, {Name: "refs/a-b", ID: one}, {Name: "refs/a.b", ID: one}, {Name: "refs/a/b", ID: one}, {Name: "refs/a0", ID: one}, {Name: "refs/aA", ID: one}, {Name: "refs/aa", ID: one}}}},
	} {
		b, err := wire.WriteOffer(c.o)
		wrote(t, showOffer(c.o), b, err, c.want)
		offers.good(t, c.want, showOffer(c.o))
	}
}

// TestOffersRefused: 12.3, names that are none, out of order or twice.
func TestOffersRefused(t *testing.T) {
	for _, name := range noNames() {
		for _, o := range []api.Offer{{Head: name}, {Head: name, Refs: []api.Ref{{Name: main}}}} {
			if name == "" {
				continue // no head, that is
			}
			b, err := wire.WriteOffer(o)
			refused(t, fmt.Sprintf("head %.99q", name), b, err)
		}
		l := []api.Ref{{Name: name}, {Name: "refs/a"}, {Name: "refs/z"}}
		slices.SortFunc(l, func(a, b api.Ref) int { return strings.Compare(a.Name, b.Name) })
		for _, o := range []api.Offer{{Refs: []api.Ref{{Name: name, ID: one}}}, {Refs: l}, {Head: main, Refs: l}} {
			b, err := wire.WriteOffer(o)
			refused(t, fmt.Sprintf("a ref %.99q", name), b, err)
		}
	}
	for _, names := range []string{"refs/b refs/a", "refs/a refs/A", "refs/a/b refs/a", "refs/a/b refs/a-b", "refs/a HEAD", "refs/a refs/a", "refs/a refs/b refs/b", "refs/a refs/a refs/b", "refs/a refs/c refs/b", "refs/b refs/a refs/c", "refs/a refs/b refs/a"} {
		var l []api.Ref
		var texts []string
		for i, name := range strings.Fields(names) {
			id := api.ID{byte(i)}
			l = append(l, api.Ref{Name: name, ID: id})
			texts = append(texts, fmt.Sprintf("%x %s", id[:], name))
		}
		b, err := wire.WriteOffer(api.Offer{Refs: l})
		refused(t, names, b, err)
		offers.bad(t, api.ErrTalk, said(append(texts, "")...))
	}
}

// TestManyOffered: 12.3, at most MaxRefs; where HEAD leads to does not count.
func TestManyOffered(t *testing.T) {
	for _, n := range []int{api.MaxRefs - 1, api.MaxRefs, api.MaxRefs + 1, 20 * api.MaxRefs} {
		o := api.Offer{Head: main}
		for _, name := range numbered(n) {
			o.Refs = append(o.Refs, api.Ref{Name: name, ID: two})
		}
		text := said(concat([]string{"head " + main}, ahead(hexTwo+" ", numbered(n)), []string{""})...)
		b, err := wire.WriteOffer(o)
		if n > api.MaxRefs {
			refused(t, fmt.Sprint(n, " refs"), b, err)
			offers.bad(t, api.ErrTalk, text)
		} else {
			wrote(t, fmt.Sprint(n, " refs"), b, err, text)
			offers.good(t, text, showOffer(o))
		}
	}
}

// TestNoOffers: 12.2 and 12.3, packet lines that are no offer.
func TestNoOffers(t *testing.T) {
	ref := hexOne + " " + main
	offers.bad(t, api.ErrTalk, "",
		// The flush is missing, or more is behind it, or it is elsewhere.
		said(ref), said("head "+main), said("head "+main, ref), said("", ""), said(ref, "", ""), said("", ref), said("", ref, ""), said(ref, "", hexTwo+" "+side, ""), said(ref, "", "done"), said("head "+main, "", ref, ""), said("", "head "+main, ""), said("", "x"),
		// The head is none, or is elsewhere, or twice.
		said("head", ""), said("head ", ""), said("head  "+main, ""), said("head "+main+" ", ""), said(" head "+main, ""), said("Head "+main, ""), said("HEAD "+main, ""), said("head"+main, ""), said("head\t"+main, ""), said("head main", ""), said("head "+hexOne+" "+main, ""), said("heads "+main, ""), said(main, ""),
		said(ref, "head "+main, ""), said("head "+main, "head "+main, ""), said("head "+main, "head "+main, ref, ""), said("head "+main, "head "+side, ref, ""),
		// A ref is none.
		said(hexOne, ""), said(hexOne+" ", ""), said(hexOne+main, ""), said(hexOne+"  "+main, ""), said(" "+ref, ""), said(ref+" ", ""), said(ref+" x", ""), said(hexOne[1:]+" "+main, ""), said(hexOne+"0 "+main, ""), said(strings.Repeat("A", 40)+" "+main, ""), said("g"+hexOne[1:]+" "+main, ""), said(main+" "+hexOne, ""), said("want "+hexOne, ""), said(hexOne+" "+hexTwo+" "+main, ""), said(hexOne+"\t"+main, ""), said("x", ""), said(ref, "x", hexOne+" refs/z", ""), said(ref, hexOne, ""),
		// A line has no end, or two, or another one, or nothing else.
		raw(ref, ""), raw("head "+main, ""), raw("head "+main+"\n", ref, ""), raw("head "+main, ref+"\n", ""), raw(ref+"\n", hexOne+" "+side, ""), said(ref+"\n", ""), said("head "+main+"\n", ""), said(ref+"\r", ""), raw(ref+"\r", ""), raw(ref+"\x00", ""), raw("\n"), raw("\n", ""), raw(ref+"\n", "\n"), raw("\n"+ref, ""), raw("\n"+ref+"\n", ""), raw(ref+"\n", "\n", ""), raw(ref+"\n"+hexOne+" "+side+"\n", ""),
	)
	for _, name := range noNames() {
		if len(name) < api.MaxPkt {
			offers.bad(t, api.ErrTalk, said("head "+name, ""), said(hexOne+" "+name, ""), said("head "+main, hexOne+" "+name, ""))
		}
	}
}

// TestOffersInNoLines: 12.2, bytes that are no packet lines, whatever else is wrong with them.
func TestOffersInNoLines(t *testing.T) {
	whole := said("head "+main, hexOne+" "+main, "")
	for _, front := range []string{"", whole, said("x"), said("", "done"), said("head " + main), said(hexOne+" refs/b", hexOne+" refs/a")} {
		offers.bad(t, api.ErrWire, noLines(front)...)
	}
	offers.bad(t, api.ErrWire, whole[1:], whole[:len(whole)-1], strings.ToUpper(whole[:4])+"g"+whole[4:], "0", whole+"\n", "003D"+whole[29:])
	for i, s := range without(whole) {
		if i == 0 || i == 25 || i == 25+61 {
			offers.bad(t, api.ErrTalk, s)
		} else {
			offers.bad(t, api.ErrWire, s)
		}
	}
}
