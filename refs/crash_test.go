package refs_test

import (
	"testing"

	"gitlike/api"
	"gitlike/refs"
)

// act is a call that is made of refs, on a disk that is laid for it.
type act struct {
	name           string
	lay            func(t *testing.T, d *api.Disk) *refs.Refs
	do             func(r *refs.Refs) error
	before, behind string // what is told before the act, and behind it
}

func updating(text string, l ...api.Change) func(r *refs.Refs) error {
	return func(r *refs.Refs) error { return r.Update(l, ann, text) }
}

func linking(name, target string) func(r *refs.Refs) error {
	return func(r *refs.Refs) error { return r.Link(name, target) }
}

func expiring(name string, keep int) func(r *refs.Refs) error {
	return func(r *refs.Refs) error { return r.Expire(name, keep) }
}

// packed lays what mixed does, and packs it.
func packed(t *testing.T, d *api.Disk) *refs.Refs {
	t.Helper()
	r := mixed(t, d)
	if err := r.Pack(); err != nil {
		t.Fatal(err)
	}
	return open(t, d)
}

// cut lays what mixed does, and then an Update that a crash has cut short.
func cut(t *testing.T, d *api.Disk) *refs.Refs {
	t.Helper()
	r := mixed(t, d)
	d.Fail(1, forever)
	if err := r.Update([]api.Change{from("refs/k", nought, id(5))}, ann, "cut"); err == nil {
		t.Fatal("done")
	}
	d.Crash(0, 150)
	r = open(t, d)
	reads(t, r, "refs/k", nought, api.ErrNoRef)
	return r
}

// leftOver lays what cut does, and a file that another call has left.
func leftOver(t *testing.T, d *api.Disk) *refs.Refs {
	t.Helper()
	write(t, d, theFile+".new", []byte("left over"))
	return cut(t, d)
}

// newAct finds out what is told before an act, and behind it.
func newAct(t *testing.T, name string, lay func(t *testing.T, d *api.Disk) *refs.Refs, do func(r *refs.Refs) error) act {
	t.Helper()
	a := act{name: name, lay: lay, do: do}
	r := lay(t, roomy())
	a.before = told(r)
	if err := do(r); err != nil {
		t.Fatalf("%s: %v", name, err)
	}
	a.behind = told(r)
	return a
}

// acts is all calls that change something, on all that they may meet.
func acts(t *testing.T) []act {
	t.Helper()
	many := updating("many", from("HEAD", id(2), id(5)), from("refs/tags/v", id(1), nought), from("refs/z", nought, id(6)), from("refs/a", nought, id(7)))
	one := updating("one", from("refs/z", nought, id(6)))
	swap := updating("swapped", from("HEAD", id(2), nought), from("refs/heads/main/x", nought, id(1)))
	return []act{
		newAct(t, "Update", mixed, many),
		newAct(t, "Update of one", mixed, one),
		newAct(t, "Update that swaps", mixed, swap),
		newAct(t, "Update of nothing", mixed, updating("nothing")),
		newAct(t, "the first Update", open, one),
		newAct(t, "the first Update, of nothing", open, updating("nothing")),
		newAct(t, "Update behind Pack", packed, many),
		newAct(t, "Update behind one that was cut short", cut, many),
		newAct(t, "Update where a file is left over", leftOver, swap),
		newAct(t, "Link", mixed, linking("refs/z", "HEAD")),
		newAct(t, "Link over another", mixed, linking("HEAD", "refs/heads/side")),
		newAct(t, "Link over one that stands for an id", mixed, linking("refs/tags/v", "HEAD")),
		newAct(t, "the first Link", open, linking("HEAD", "refs/heads/main")),
		newAct(t, "Link behind one that was cut short", cut, linking("refs/z", "HEAD")),
		newAct(t, "Expire", mixed, expiring("HEAD", 1)),
		newAct(t, "Expire of all", packed, expiring("refs/heads/main", 0)),
		newAct(t, "Expire of none", mixed, expiring("refs/heads/main", 9)),
		newAct(t, "Expire behind one that was cut short", cut, expiring("HEAD", 1)),
		newAct(t, "Expire where a file is left over", leftOver, expiring("HEAD", 1)),
		newAct(t, "Pack", mixed, (*refs.Refs).Pack),
		newAct(t, "Pack again", packed, (*refs.Refs).Pack),
		newAct(t, "Pack of none", open, (*refs.Refs).Pack),
		newAct(t, "Pack behind one that was cut short", cut, (*refs.Refs).Pack),
		newAct(t, "Pack where a file is left over", leftOver, (*refs.Refs).Pack),
	}
}

// broken does the act where so many operations fail behind so many, and tells whether it was done all the same.
func (a act) broken(t *testing.T, d *api.Disk, after, times int) (*refs.Refs, bool) {
	t.Helper()
	r := a.lay(t, d)
	d.Fail(after, times)
	err := a.do(r)
	if err != nil && api.Tell(err) != api.ErrDisk || err == nil && !stillFails(d, after) {
		t.Fatalf("%s, behind %d operations: %v", a.name, after, err)
	}
	return r, err == nil
}

// isEither wants what is told to be as before the act, or as behind it; as behind it, if it was done.
func (a act) isEither(t *testing.T, r *refs.Refs, done bool) string {
	t.Helper()
	got := told(r)
	if got != a.behind && (done || got != a.before) {
		t.Fatalf("%s: they tell neither what was before it nor what is behind it, but %s", a.name, got)
	}
	return got
}

// again does the act if it is not done yet, and then another one; each is safe.
func (a act) again(t *testing.T, r *refs.Refs, d *api.Disk) {
	t.Helper()
	if told(r) == a.before {
		if err := a.do(r); err != nil {
			t.Fatalf("%s: done again: %v", a.name, err)
		}
	}
	if told(r) != a.behind {
		t.Fatalf("%s: done again, they tell otherwise", a.name)
	}
	bothTell(t, a.name+": done again", r, d)
	update(t, r, "another", from("refs/k", nought, id(9)))
	want := told(r)
	d.Crash(0, 0)
	if told(open(t, d)) != want {
		t.Fatalf("%s: done again, and a crash: they tell otherwise", a.name)
	}
}

// TestBroken: 7.6, each operation failing, alone, with some or with all behind it, and no crash.
func TestBroken(t *testing.T) {
	for _, a := range acts(t) {
		for _, times := range []int{1, 2, 3, 4, forever} {
			for after := 0; ; after++ {
				d := roomy()
				r, done := a.broken(t, d, after, times)
				got := a.isEither(t, r, done)
				if told(open(t, d.Copy())) != got {
					t.Fatalf("%s, behind %d operations: refs that are opened tell otherwise", a.name, after)
				}
				d.Fail(0, 0)
				if after%2 == 0 {
					r = open(t, d)
				}
				bothTell(t, a.name, r, d)
				a.again(t, r, d)
				if done {
					break
				}
			}
		}
	}
}

// TestBrokenOnce: 7.6, one operation failing: what the refs tell then, a crash does not take.
func TestBrokenOnce(t *testing.T) {
	for _, a := range acts(t) {
		for after := 0; ; after++ {
			d := roomy()
			r, done := a.broken(t, d, after, 1)
			got := a.isEither(t, r, done)
			d.Crash(0, 0)
			if told(open(t, d)) != got {
				t.Fatalf("%s, behind %d operations: they tell otherwise", a.name, after)
			}
			if done {
				break
			}
		}
	}
}

// TestBrokenOpened: 7.6, what refs tell that are opened behind a failure, a crash does not take.
func TestBrokenOpened(t *testing.T) {
	for _, a := range acts(t) {
		for after := 0; ; after++ {
			d := roomy()
			_, done := a.broken(t, d, after, forever)
			d.Fail(0, 0)
			got := a.isEither(t, open(t, d), done)
			d.Crash(0, 0)
			if told(open(t, d)) != got {
				t.Fatalf("%s, behind %d operations: they tell otherwise", a.name, after)
			}
			if done {
				break
			}
		}
	}
}

// TestCrashes: 7.6, all operations failing from some moment on, and then a crash that leaves more or less.
func TestCrashes(t *testing.T) {
	for _, a := range acts(t) {
		for _, dir := range []uint{0, 1, 2, 3, 4, 5} {
			for _, tail := range []uint{0, 1, 77, 200, 1000} {
				for after := 0; ; after++ {
					d := roomy()
					_, done := a.broken(t, d, after, forever)
					d.Crash(dir, tail)
					r := open(t, d)
					got := a.isEither(t, r, done)
					d.Crash(0, 0)
					if after%2 == 0 {
						r = open(t, d)
					}
					if told(r) != got {
						t.Fatalf("%s, behind %d operations: the next time they tell otherwise", a.name, after)
					}
					bothTell(t, a.name, r, d)
					a.again(t, r, d)
					if done {
						break
					}
				}
			}
		}
	}
}

// TestEachTail: 7.6, an Update of which each number of bytes is left.
func TestEachTail(t *testing.T) {
	for _, a := range acts(t)[:2] {
		d := roomy()
		a.lay(t, d)
		short := len(bytesOf(t, d, theFile))
		d = roomy()
		r := a.lay(t, d)
		a.do(r)
		more := len(bytesOf(t, d, theFile)) - short
		for tail := range more + 1 {
			d = roomy()
			r, _ = a.broken(t, d, 1, forever)
			d.Crash(0, uint(tail))
			want := a.before
			if tail == more {
				want = a.behind
			}
			r = open(t, d)
			if told(r) != want {
				t.Fatalf("%s, %d of %d bytes: they tell otherwise", a.name, tail, more)
			}
			a.again(t, r, d)
		}
	}
}

// TestBehindUnsafe: 7.6, a call behind one that failed when it was done, and was not safe yet: a crash does not take both.
func TestBehindUnsafe(t *testing.T) {
	for _, a := range acts(t) {
		for _, next := range []func(r *refs.Refs) error{updating("next", from("refs/k", nought, id(9))), linking("refs/k", "HEAD"), updating("nothing"), (*refs.Refs).Pack} {
			for before := 0; ; before++ {
				d := roomy()
				r, done := a.broken(t, d, before, forever)
				d.Fail(0, 0)
				if done {
					break
				}
				if told(r) == a.behind {
					if err := next(r); err != nil {
						t.Fatalf("%s, and the next one: %v", a.name, err)
					}
					a.nextBroken(t, before, next, told(r))
				}
			}
		}
	}
}

// nextBroken does the act, and then the next one, with operations failing in both. The next one has made safe what was there before its third operation.
func (a act) nextBroken(t *testing.T, before int, next func(r *refs.Refs) error, last string) {
	t.Helper()
	for after := 2; ; after++ {
		d := roomy()
		r, _ := a.broken(t, d, before, forever)
		d.Fail(after, forever)
		err := next(r)
		if told(open(t, d.Copy())) != told(r) {
			t.Fatalf("%s, and the next one behind %d operations: refs that are opened tell otherwise", a.name, after)
		}
		d.Crash(0, 0)
		if s := told(open(t, d)); s != last && (s != a.behind || err == nil) {
			t.Fatalf("%s, and the next one behind %d operations: they tell otherwise", a.name, after)
		}
		if err == nil {
			return
		}
	}
}

// TestNoRoom: 7.6, room that is refused: nothing is changed, and nothing is left behind.
func TestNoRoom(t *testing.T) {
	for _, a := range acts(t) {
		laid := roomy()
		a.lay(t, laid)
		for room := 0; ; room += 7 {
			d := spare(t, laid, room)
			r := open(t, d)
			err := a.do(r)
			want := a.behind
			if err != nil {
				is(t, a.name, err, api.ErrRoom)
				want = a.before
			}
			if told(r) != want {
				t.Fatalf("%s, room for %d: they tell otherwise", a.name, room)
			}
			bothTell(t, a.name, r, d)
			if l := d.List(); len(l) > len(laid.List()) && err != nil {
				t.Errorf("%s, room for %d: files are left: %q", a.name, room, l)
			}
			d.Crash(0, 0)
			if told(open(t, d)) != want {
				t.Fatalf("%s, room for %d, and a crash: they tell otherwise", a.name, room)
			}
			if err == nil {
				break
			}
		}
	}
}

// spare is a copy of a disk that has so much room and no more.
func spare(t *testing.T, d *api.Disk, room int) *api.Disk {
	t.Helper()
	for _, name := range d.List() {
		room += len(bytesOf(t, d, name))
	}
	c := api.NewDisk(room)
	for _, name := range d.List() {
		write(t, c, name, bytesOf(t, d, name))
	}
	return c
}
