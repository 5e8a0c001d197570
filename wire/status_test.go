package wire_test

import (
	"fmt"
	"math"
	"strconv"
	"strings"
	"testing"

	"gitlike/api"
	"gitlike/wire"
)

func showStatus(l []api.Status) string {
	var s []string
	for _, x := range l {
		s = append(s, x.Name+":"+strconv.Itoa(int(x.Err)))
	}
	return strings.Join(s, ",")
}

var statuses = talk{"ReadStatus", func(b []byte) (string, error) {
	l, err := wire.ReadStatus(b)
	return showStatus(l), err
}}

// TestStatuses: 12.6, what is written, to the byte, and read back; in whatever order.
func TestStatuses(t *testing.T) {
	for _, c := range []struct {
		want string
		l    []api.Status
	}{
		{"0000", nil},
		{"0000", []api.Status{}},
		{"0017ok refs/heads/main\n0000", []api.Status{{Name: main}}},
		{"000cok HEAD\n0000", []api.Status{{Name: "HEAD"}}},
		{"0019ng refs/heads/main 1\n0000", []api.Status{{Name: main, Err: 1}}},
		{"001ang refs/heads/main 62\n0000", []api.Status{{Name: main, Err: api.ErrStale}}},
		{said("ng "+main+" 999", ""), []api.Status{{Name: main, Err: 999}}},
		{said("ng "+longName+" 110", "ok refs/z", "ok refs/a", "ng HEAD 10", ""), []api.Status{{Name: longName, Err: 110}, {Name: "refs/z"}, {Name: "refs/a"}, {Name: "HEAD", Err: 10}}},
		{said("ok refs/a", "ng refs/A 5", "ok refs/a/b", ""), []api.Status{{Name: "refs/a"}, {Name: "refs/A", Err: 5}, {Name: "refs/a/b"}}},
	} {
		b, err := wire.WriteStatus(c.l)
		wrote(t, showStatus(c.l), b, err, c.want)
		statuses.good(t, c.want, showStatus(c.l))
	}
}

// TestErrs: 12.6, all that Err can be, and what it cannot.
func TestErrs(t *testing.T) {
	for n := -1100; n <= 2100; n++ {
		l := []api.Status{{Name: side}, {Name: main, Err: api.Errno(n)}}
		text := said("ok "+side, "ng "+main+" "+strconv.Itoa(n), "")
		b, err := wire.WriteStatus(l)
		switch {
		case n == 0:
			wrote(t, "0", b, err, said("ok "+side, "ok "+main, ""))
			statuses.bad(t, api.ErrTalk, text)
		case n < 0 || n > 999:
			refused(t, showStatus(l), b, err)
			statuses.bad(t, api.ErrTalk, text)
		default:
			wrote(t, showStatus(l), b, err, text)
			statuses.good(t, text, showStatus(l))
		}
	}
	for _, n := range []int{math.MinInt, math.MinInt32, -1 << 16, 1 << 16, 1<<16 + 5, 1<<32 + 5, 1<<32 - 5, math.MaxInt32, math.MaxInt} {
		b, err := wire.WriteStatus([]api.Status{{Name: main, Err: api.Errno(n)}})
		refused(t, strconv.Itoa(n), b, err)
		statuses.bad(t, api.ErrTalk, said("ng "+main+" "+strconv.Itoa(n), ""))
	}
	for _, s := range []string{"", " ", "0", "00", "07", "007", "0007", "+7", "-7", "-0", "+0", " 7", "7 ", "7 7", "7.", "7.0", "0x7", "0b1", "0o7", "1_0", "1e2", "x", "7x", "x7", "7\n", "\n7", "7\r", "7\x00", "٧", "７", "18446744073709551623", "65543", "4294967303", "99999999999999999999999999999999", strings.Repeat("0", 500) + "7", strings.Repeat("9", 900)} {
		statuses.bad(t, api.ErrTalk, said("ng "+main+" "+s, ""), said("ok "+main+" "+s, ""))
	}
}

// TestStatusesRefused: 12.6, names that are none, or twice.
func TestStatusesRefused(t *testing.T) {
	for _, name := range noNames() {
		for _, l := range [][]api.Status{{{Name: name}}, {{Name: name, Err: 5}}, {{Name: main}, {Name: name}}, {{Name: name, Err: 5}, {Name: main}}} {
			b, err := wire.WriteStatus(l)
			refused(t, fmt.Sprintf("a ref %.99q", name), b, err)
		}
		if len(name) < api.MaxPkt {
			statuses.bad(t, api.ErrTalk, said("ok "+name, ""), said("ng "+name+" 5", ""), said("ok "+main, "ng "+name+" 5", ""))
		}
	}
	for _, l := range [][]api.Status{{{Name: main}, {Name: main}}, {{Name: main}, {Name: main, Err: 5}}, {{Name: main, Err: 5}, {Name: side}, {Name: main}}, {{Name: side}, {Name: main, Err: 5}, {Name: main, Err: 6}}} {
		var texts []string
		for _, s := range l {
			if s.Err == 0 {
				texts = append(texts, "ok "+s.Name)
			} else {
				texts = append(texts, fmt.Sprintf("ng %s %d", s.Name, int(s.Err)))
			}
		}
		b, err := wire.WriteStatus(l)
		refused(t, showStatus(l), b, err)
		statuses.bad(t, api.ErrTalk, said(append(texts, "")...))
	}
}

// TestManyStatuses: 12.6, at most MaxRefs.
func TestManyStatuses(t *testing.T) {
	for _, n := range []int{api.MaxRefs - 1, api.MaxRefs, api.MaxRefs + 1, 20 * api.MaxRefs} {
		var l []api.Status
		for _, name := range numbered(n) {
			l = append(l, api.Status{Name: name})
		}
		text := said(concat(ahead("ok ", numbered(n)), []string{""})...)
		b, err := wire.WriteStatus(l)
		if n > api.MaxRefs {
			refused(t, fmt.Sprint(n, " statuses"), b, err)
			statuses.bad(t, api.ErrTalk, text)
		} else {
			wrote(t, fmt.Sprint(n, " statuses"), b, err, text)
			statuses.good(t, text, showStatus(l))
		}
	}
}

// TestNoStatuses: 12.2 and 12.6, packet lines that are no status.
func TestNoStatuses(t *testing.T) {
	good, no := "ok "+main, "ng "+side+" 5"
	statuses.bad(t, api.ErrTalk, "",
		// The flush is missing, or more is behind it, or it is elsewhere.
		said(good), said(good, no), said("", ""), said(good, "", ""), said("", good), said("", good, ""), said(good, "", no, ""), said(good, "", "done"), said("", "x"),
		// Words, names and numbers that are none.
		said("ok", ""), said("ok ", ""), said("ng", ""), said("ng ", ""), said("ng "+main, ""), said("ng "+main+" ", ""), said(main, ""), said(main+" 5", ""), said("ok  "+main, ""), said("ng  "+main+" 5", ""), said("ng "+main+"  5", ""), said(" "+good, ""), said(good+" ", ""), said(no+" ", ""), said("OK "+main, ""), said("Ng "+main+" 5", ""), said("no "+main+" 5", ""), said("ok"+main, ""), said("ng"+main+" 5", ""), said("ok\t"+main, ""), said("ng 5 "+main, ""), said("ok ng "+main+" 5", ""), said("ng ng "+main+" 5", ""), said("ok ok "+main, ""), said("x", ""), said(good, "x", no, ""), said("x", good, ""), said(good, "x", ""),
		// A line has no end, or two, or another one, or nothing else.
		raw(good, ""), raw(no, ""), raw(good+"\n", no, ""), raw(good, no+"\n", ""), said(good+"\n", ""), said(no+"\n", ""), said(good+"\r", ""), raw(no+"\r", ""), raw("\n"), raw("\n", ""), raw(good+"\n", "\n"), raw(good+"\n", "\n", ""), raw("\n"+good+"\n", ""), raw(good+"\n"+no+"\n", ""), raw(no+"\x00", ""),
	)
}

// TestStatusesInNoLines: 12.2, bytes that are no packet lines, whatever else is wrong with them.
func TestStatusesInNoLines(t *testing.T) {
	whole := said("ok "+main, "ng "+side+" 5", "")
	for _, front := range []string{"", whole, said("x"), said("", "done"), said("ok " + main), said("ok "+main, "ok "+main)} {
		statuses.bad(t, api.ErrWire, noLines(front)...)
	}
	for i, s := range without(whole) {
		if i == 0 || i == 23 || i == 23+25 {
			statuses.bad(t, api.ErrTalk, s)
		} else {
			statuses.bad(t, api.ErrWire, s)
		}
	}
}
