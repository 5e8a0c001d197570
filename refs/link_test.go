package refs_test

import (
	"fmt"
	"math"
	"slices"
	"testing"

	"gitlike/api"
)

// TestLink: 7.5, over refs of all kinds.
func TestLink(t *testing.T) {
	d := roomy()
	r := open(t, d)
	update(t, r, "one", from("refs/a", nought, id(1)), from("refs/b", nought, id(2)))
	one := entered(nought, id(1), "one")
	link(t, r, "refs/a", "refs/b")
	reads(t, r, "refs/a", id(2), api.OK)
	leads(t, r, "refs/a", "refs/b", api.OK)
	logs(t, r, "refs/a", one)
	bothTell(t, "over one that stands for an id", r, d)
	link(t, r, "refs/a", "refs/no")
	reads(t, r, "refs/a", nought, api.ErrNoRef)
	leads(t, r, "refs/a", "refs/no", api.OK)
	logs(t, r, "refs/a", one)
	bothTell(t, "over one that leads elsewhere", r, d)
	link(t, r, "refs/a", "refs/no")
	link(t, r, "refs/c", "refs/a")
	logs(t, r, "refs/c")
	noLog(t, r, "refs/no", api.ErrNoRef)
	link(t, r, "refs/d", "refs/a/x")
	reads(t, r, "refs/d", nought, api.ErrNoRef)
	link(t, r, "refs/e", "HEAD")
	link(t, r, "HEAD", "refs/e")
	reads(t, r, "HEAD", nought, api.ErrLoop)
	link(t, r, "HEAD", "refs/b")
	reads(t, r, "refs/e", id(2), api.OK)
	bothTell(t, "links", r, d)
}

// TestLinkErrors: 7.5, each error of Link, and which of two is told.
func TestLinkErrors(t *testing.T) {
	d := roomy()
	r := tangled(t, d)
	refused := func(what, name, target string, want api.Errno) {
		t.Helper()
		before, file := told(r), string(bytesOf(t, d, theFile))
		is(t, what, r.Link(name, target), want)
		if told(r) != before || string(bytesOf(t, d, theFile)) != file {
			t.Errorf("%s: something is changed", what)
		}
		bothTell(t, what, r, d)
	}
	for _, name := range badNames {
		refused("a name: "+name, name, "refs/a", api.ErrName)
		refused("a target: "+name, "refs/a", name, api.ErrName)
		refused("both: "+name, name, name, api.ErrName)
		refused("a target, and a clash: "+name, "refs/tags/v/w", name, api.ErrName)
	}
	refused("to itself", "refs/z", "refs/z", api.ErrLoop)
	refused("one that is there to itself", "HEAD", "HEAD", api.ErrLoop)
	refused("to itself, and a clash", "refs/tags/v/w", "refs/tags/v/w", api.ErrLoop)
	for _, name := range []string{"refs/tags/v/w", "refs/tags", "refs/heads", "refs/heads/main/x", "refs/i/j", "refs/x/x/x"} {
		refused("a clash: "+name, name, "refs/z", api.ErrClash)
	}
	refused("a clash with its target", "refs/tags", "refs/tags/v", api.ErrClash)
	link(t, r, "refs/z", "refs/z/a")
	leads(t, r, "refs/z", "refs/z/a", api.OK)
	is(t, "Update of a clash through it", r.Update([]api.Change{from("refs/z", nought, id(1))}, ann, ""), api.ErrClash)
	link(t, r, "refs/tags/w", "refs/tags/v")
	bothTell(t, "no clash", r, d)
}

// TestLogErrors: 7.5, of Log.
func TestLogErrors(t *testing.T) {
	r := tangled(t, roomy())
	for _, name := range badNames {
		noLog(t, r, name, api.ErrName)
	}
	noLog(t, r, "refs/heads", api.ErrNoRef)
	noLog(t, r, "refs/y", api.ErrNoRef)
	logs(t, r, "refs/x")
	logs(t, r, "refs/i")
}

// TestExpire: 7.5, some, all, none of a log, and more than there are.
func TestExpire(t *testing.T) {
	for _, keep := range []int{math.MinInt, -1, 0, 1, 2, 4, 5, 6, 100, math.MaxInt} {
		d := roomy()
		r := open(t, d)
		link(t, r, "HEAD", "refs/a")
		var all []api.LogEntry
		for i := range byte(5) {
			e := entered(api.ID{i}, api.ID{i + 1}, fmt.Sprint(i))
			update(t, r, e.Text, from("HEAD", e.Old, e.New))
			all = append(all, e)
		}
		expire(t, r, "refs/a", keep)
		left := slices.Clone(all[5-min(max(keep, 0), 5):])
		logs(t, r, "refs/a", left...)
		logs(t, r, "HEAD", all...)
		reads(t, r, "refs/a", api.ID{5}, api.OK)
		bothTell(t, "Expire", r, d)
		more := entered(api.ID{5}, api.ID{9}, "more")
		update(t, r, "more", from("HEAD", more.Old, more.New))
		logs(t, r, "refs/a", append(left, more)...)
		logs(t, r, "HEAD", append(slices.Clone(all), more)...)
		expire(t, r, "HEAD", keep)
		reads(t, r, "HEAD", api.ID{9}, api.OK)
		bothTell(t, "Expire of both", r, d)
	}
}

// TestExpireErrors: 7.5, of Expire.
func TestExpireErrors(t *testing.T) {
	d := roomy()
	r := tangled(t, d)
	before := told(r)
	for _, name := range badNames {
		is(t, name, r.Expire(name, 1), api.ErrName)
	}
	for _, name := range []string{"refs/heads", "refs/y", "refs/z"} {
		is(t, name, r.Expire(name, 1), api.ErrNoRef)
	}
	for _, name := range []string{"refs/x", "refs/i"} {
		is(t, name, r.Expire(name, 0), api.OK)
	}
	if told(r) != before {
		t.Error("something is changed")
	}
	bothTell(t, "Expire", r, d)
}

// TestExpireForgets: 7.5, what is forgotten is on the disk no more.
func TestExpireForgets(t *testing.T) {
	d := roomy()
	r := open(t, d)
	for i := range byte(50) {
		update(t, r, "a text", from("refs/a", api.ID{i}, api.ID{i + 1}))
	}
	long := len(bytesOf(t, d, theFile))
	expire(t, r, "refs/a", 1)
	if n := len(bytesOf(t, d, theFile)); n > long/25 {
		t.Errorf("%d of %d bytes are left", n, long)
	}
}
