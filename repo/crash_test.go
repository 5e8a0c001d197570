package repo_test

import (
	"bytes"
	"math"
	"slices"
	"strings"
	"testing"

	"gitlike/api"
	"gitlike/deflate"
	"gitlike/graph"
	"gitlike/object"
	"gitlike/repo"
)

// act is a call that is made of a repository, on a disk that is laid for it.
type act struct {
	name string
	lay  *api.Disk
	do   func(r *repo.Repo) error
	want api.Errno // what it answers, if nothing fails
	// parts is the same act, done to a part: what may be, too, when it is cut short; each has more of it than the one ahead.
	parts []func(r *repo.Repo) error
}

// world is a disk with a repository of all sorts: main is in use, side stands beside it, ahead is in front of it, a branch was dropped whose commit HEAD's log has, and something is left over.
func world(t *testing.T) *api.Disk {
	t.Helper()
	d, r := create(t)
	commit(t, r, "f", ten)
	branch(t, r, "side", "HEAD")
	branch(t, r, "gone", "HEAD")
	toSwitch(t, r, "gone")
	commit(t, r, "f", "gone")
	toSwitch(t, r, "side")
	commit(t, r, "f", ten+"11\n")
	toSwitch(t, r, "main")
	commit(t, r, "f", "0\n"+ten)
	branch(t, r, "ahead", "HEAD")
	toSwitch(t, r, "ahead")
	commit(t, r, "f", "ahead")
	toSwitch(t, r, "main")
	done(t, "Drop", r.Drop("gone"))
	tag(t, r, "v", "HEAD")
	lay(t, d, blob("left over"))
	return d.Copy()
}

// allActs is calls of all kinds, of the exchange too.
func allActs(t *testing.T) []act { return append(acts(t), exchangeActs(t)...) }

// acts is calls of all kinds, but for the exchange.
func acts(t *testing.T) []act {
	w := world(t)
	fresh, _ := create(t)
	packed := w.Copy()
	done(t, "Collect", open(t, packed).Collect())
	files := texts("f", "new", "d/e", "new too")
	return []act{
		{"Commit", w, func(r *repo.Repo) error { _, err := r.Commit(files, ann, "m"); return err }, api.OK, nil},
		{"the first Commit", fresh, func(r *repo.Repo) error { _, err := r.Commit(files, ann, "m"); return err }, api.OK, nil},
		{"Commit behind a pack", packed, func(r *repo.Repo) error { _, err := r.Commit(files, ann, "m"); return err }, api.OK, nil},
		{"Commit of nothing new", w, func(r *repo.Repo) error { _, err := r.Commit(texts("f", "0\n"+ten), ann, "m"); return err }, api.ErrNothing, nil},
		{"Branch", w, func(r *repo.Repo) error { return r.Branch("new", "v") }, api.OK, nil},
		{"Branch below another one", w, func(r *repo.Repo) error { return r.Branch("side/x", "v") }, api.ErrClash, nil},
		{"Switch", w, func(r *repo.Repo) error { return r.Switch("side") }, api.OK, nil},
		{"Drop", w, func(r *repo.Repo) error { return r.Drop("side") }, api.OK, nil},
		{"Tag", w, func(r *repo.Repo) error { _, err := r.Tag("new", "side", bob, "m"); return err }, api.OK, nil},
		{"Merge", w, func(r *repo.Repo) error { _, err := r.Merge("side", bob, "m"); return err }, api.OK, nil},
		{"Merge of packed ones", packed, func(r *repo.Repo) error { _, err := r.Merge("side", bob, "m"); return err }, api.OK, nil},
		{"Merge forward", w, func(r *repo.Repo) error { _, err := r.Merge("ahead", bob, "m"); return err }, api.OK, nil},
		{"Merge of what is merged", w, func(r *repo.Repo) error { _, err := r.Merge("v", bob, "m"); return err }, api.ErrNothing, nil},
		{"Collect", w, func(r *repo.Repo) error { return r.Collect() }, api.OK, nil},
		{"Collect again", packed, func(r *repo.Repo) error { return r.Collect() }, api.OK, nil},
		{"Collect of nothing", fresh, func(r *repo.Repo) error { return r.Collect() }, api.OK, nil},
		{"Files", w, func(r *repo.Repo) error { l, err := r.Files("side"); return zero(l == nil, err) }, api.OK, nil},
		{"Log", packed, func(r *repo.Repo) error { l, err := r.Log("side"); return zero(l == nil, err) }, api.OK, nil},
		{"Objects", w, func(r *repo.Repo) error { l, err := r.Objects(); return zero(l == nil, err) }, api.OK, nil},
		{"Check", w, func(r *repo.Repo) error { return r.Check() }, api.OK, nil},
	}
}

// states is what refs and logs are before an act, behind each of its parts, and behind it.
func (a act) states(t *testing.T) (l []string) {
	t.Helper()
	l = append(l, refsTold(t, open(t, a.lay.Copy())))
	for _, do := range append(slices.Clone(a.parts), a.do) {
		d := a.lay.Copy()
		r := open(t, d)
		is(t, a.name, do(r), a.want)
		l = append(l, refsTold(t, r))
		tellsTheSame(t, a.name, r, d)
	}
	return l
}

// last is what is behind all.
func last(states []string) string { return states[len(states)-1] }

// allThere wants all to be there that refs and logs reach.
func allThere(t *testing.T, what string, r *repo.Repo) {
	t.Helper()
	l, err := r.Objects()
	done(t, what+": Objects", err)
	var from []api.ID
	for _, x := range r.Refs() {
		from = append(from, x.ID)
	}
	for _, name := range names(r) {
		log, err := r.Reflog(name)
		done(t, what+": Reflog", err)
		for _, e := range log {
			from = append(from, e.Old, e.New)
		}
	}
	from = slices.DeleteFunc(from, func(id api.ID) bool { return id == nought })
	if _, err := graph.Closure(l, from); err != nil {
		t.Fatalf("%s: not all is there: %v", what, err)
	}
	done(t, what+": Check", r.Check())
}

// broken does an act where so many operations fail behind so many, and tells whether none of them came.
func (a act) broken(t *testing.T, d *api.Disk, after, times int) (r *repo.Repo, ended bool) {
	t.Helper()
	r = open(t, d)
	d.Fail(after, times)
	err := a.do(r)
	ended = api.Tell(err) == a.want
	if !ended && api.Tell(err) != api.ErrDisk || ended && !stillFails(d, after) {
		t.Fatalf("%s, behind %d operations: %v", a.name, after, err)
	}
	d.Fail(0, 0)
	return r, ended
}

// stillFails tells whether the operation that was to fail behind so many has not come yet.
func stillFails(d *api.Disk, after int) bool {
	for range after + 1 {
		if _, err := d.Size("no such file"); api.Tell(err) == api.ErrDisk {
			return true
		}
	}
	return false
}

// is wants refs and logs to be in one of the states (if the act ended: in the last one), and all to be there that they reach. It tells which one it is.
func (a act) is(t *testing.T, what string, r *repo.Repo, states []string, ended bool) int {
	t.Helper()
	now := refsTold(t, r)
	i := slices.Index(states, now)
	if i < 0 || ended && now != last(states) {
		t.Fatalf("%s: %s: it tells\n%s, none of\n%s", a.name, what, now, strings.Join(states, "\n"))
	}
	allThere(t, a.name+": "+what, r)
	return i
}

// again does an act once more, when nothing fails, if it was not done, and then a crash comes that takes all that may be taken.
func (a act) again(t *testing.T, r *repo.Repo, d *api.Disk, states []string) {
	t.Helper()
	if now := refsTold(t, r); now == states[0] || now != last(states) {
		is(t, a.name+" again", a.do(r), a.want)
	}
	a.is(t, "again", r, states, true)
	d.Crash(0, 0)
	a.is(t, "again, and a crash", open(t, d), states, true)
}

// withoutCrash lets each operation fail, alone or with all behind it, and no crash comes.
func (a act) withoutCrash(t *testing.T) {
	states := a.states(t)
	for _, times := range []int{1, 2, forever} {
		for after := 0; ; after++ {
			d := a.lay.Copy()
			r, ended := a.broken(t, d, after, times)
			a.is(t, "the repository itself", r, states, ended)
			tellsTheSame(t, a.name, r, d)
			if after%2 == 0 {
				r = open(t, d)
			}
			a.again(t, r, d, states)
			if ended {
				break
			}
		}
	}
}

// twice lets an operation fail, and then one of the next call, which is the same one again.
func (a act) twice(t *testing.T) {
	states := a.states(t)
	for after := 0; ; after += 3 {
		d := a.lay.Copy()
		r, ended := a.broken(t, d, after, 1+after%2)
		if ended {
			break
		}
		was := 0
		if after%2 == 0 { // else the next call is the first thing that it is asked
			was = a.is(t, "the repository itself", r, states, false)
		}
		for _, more := range []int{0, 1, 2, 5, 20, 60} {
			d.Fail(more, 1)
			err := a.do(r)
			if !stillFails(d, more) && api.Tell(err) != api.ErrDisk {
				t.Fatalf("%s again, behind %d and %d operations: %v", a.name, after, more, err)
			}
			d.Fail(0, 0)
			if api.Tell(err) != api.ErrDisk {
				break
			}
			now := a.is(t, "the next time", r, states, false)
			if now < was {
				t.Fatalf("%s: what was done is not done any more", a.name)
			}
			was = now
			tellsTheSame(t, a.name, r, d)
		}
	}
}

// toldIsSafe lets operations fail, and then a crash comes that takes all that may be taken: what was told of refs in between is so.
func (a act) toldIsSafe(t *testing.T) {
	for _, times := range []int{1, 2, forever} {
		for after := 0; ; after++ {
			d := a.lay.Copy()
			r, ended := a.broken(t, d, after, times)
			was := refsTold(t, r)
			d.Crash(0, 0)
			if now := refsTold(t, open(t, d)); now != was {
				t.Fatalf("%s, behind %d operations: it told\n%s, and behind a crash\n%s", a.name, after, was, now)
			}
			if ended {
				break
			}
		}
	}
}

// withCrash lets all operations fail from some moment on, and then a crash comes, that leaves more or less.
func (a act) withCrash(t *testing.T) {
	states := a.states(t)
	for i, dir := range []uint{0, 1, 2, 3, 5, 8, 13} {
		for after := 0; ; after++ {
			d := a.lay.Copy()
			_, ended := a.broken(t, d, after, forever)
			d.Crash(dir, []uint{0, 77, 1 << 20}[i%3])
			r := open(t, d)
			was := refsTold(t, r)
			a.is(t, "behind a crash", r, states, ended)
			d.Crash(0, 0)
			r = open(t, d)
			a.is(t, "the next time", r, []string{was}, ended)
			if (after+i)%3 == 0 {
				a.again(t, r, d, states)
			}
			if ended {
				break
			}
		}
	}
}

// TestBroken: 13.9 and 14.7, every operation of the disk fails, or is the last one ahead of a crash, in each call.
func TestBroken(t *testing.T) {
	for _, a := range allActs(t) {
		t.Run(a.name, func(t *testing.T) {
			t.Parallel()
			a.withoutCrash(t)
			a.twice(t)
			a.toldIsSafe(t)
			a.withCrash(t)
		})
	}
}

// narrow is a copy of a disk that has so many bytes of room left.
func narrow(t *testing.T, d *api.Disk, left int) *api.Disk {
	t.Helper()
	used := 0
	for _, name := range d.List() {
		n, err := d.Size(name)
		done(t, "Size", err)
		used += n
	}
	copied := api.NewDisk(used + left)
	for _, name := range d.List() {
		b, err := d.ReadAt(name, 0, math.MaxInt)
		done(t, "ReadAt", err)
		done(t, "Create", copied.Create(name))
		done(t, "Append", copied.Append(name, b))
		done(t, "Sync", copied.Sync(name))
	}
	done(t, "SyncDir", copied.SyncDir())
	return copied
}

// TestNoRoom: 13.9 and 14.7, want of room, in each call.
func TestNoRoom(t *testing.T) {
	for _, a := range allActs(t) {
		t.Run(a.name, func(t *testing.T) {
			t.Parallel()
			states := a.states(t)
			for left := 0; ; left += 11 {
				d := narrow(t, a.lay, left)
				r := open(t, d)
				err := a.do(r)
				ended := api.Tell(err) == a.want
				if !ended && api.Tell(err) != api.ErrRoom {
					t.Fatalf("%s with %d bytes left: %v", a.name, left, err)
				}
				a.is(t, "the repository itself", r, states, ended)
				tellsTheSame(t, a.name, r, d)
				d.Crash(uint(left), uint(left))
				a.is(t, "behind a crash", open(t, d), states, ended)
				if ended {
					break
				}
			}
		})
	}
}

// TestCrashBehind: 13.9 and 14.7, what was answered without an error is safe: crashes behind calls, of one repository and of new ones.
func TestCrashBehind(t *testing.T) {
	for _, a := range allActs(t) {
		for dir := range uint(4) {
			states := a.states(t)
			d := a.lay.Copy()
			r := open(t, d)
			is(t, a.name, a.do(r), a.want)
			d.Crash(dir, dir)
			a.is(t, "behind it", open(t, d), states, true)
		}
	}
}

// TestUnsafeObjects: 13.9 and P16, a call failed and left objects that are not safe yet: no ref leads to them before they are, be it made by the same repository or by one that was opened.
func TestUnsafeObjects(t *testing.T) {
	w := world(t)
	files := texts("f", "new", "d/e", "new too")
	whole := w.Copy()
	id, err := open(t, whole).Commit(files, ann, "m")
	done(t, "Commit", err)
	leading := map[string]func(r *repo.Repo) error{
		"Branch":  func(r *repo.Repo) error { return r.Branch("new", hex(id)) },
		"Tag":     func(r *repo.Repo) error { _, err := r.Tag("new", hex(id), ann, ""); return err },
		"forward": func(r *repo.Repo) error { _, err := r.Merge(hex(id), ann, ""); return err },
		"Merge": func(r *repo.Repo) error {
			if err := r.Switch("side"); err != nil {
				return err
			}
			_, err := r.Merge(hex(id), ann, "")
			return err
		},
	}
	met := 0
	for what, lead := range leading {
		for after := 0; ; after++ {
			d := w.Copy()
			r := open(t, d)
			d.Fail(after, forever)
			_, err := r.Commit(files, ann, "m")
			d.Fail(0, 0)
			if err == nil {
				break
			}
			if after%2 == 0 {
				r = open(t, d)
			}
			if !slices.Contains(objectsTold(t, r), id) {
				continue
			}
			met++
			if err := lead(r); err != nil && api.Tell(err) != api.ErrNothing && api.Tell(err) != api.ErrConflict {
				t.Errorf("%s: %v", what, err)
			}
			was := told(t, r)
			d.Crash(0, 0)
			r = open(t, d)
			allThere(t, what, r)
			if now := told(t, r); now != was {
				t.Errorf("%s: it told\n%s, and behind a crash\n%s", what, was, now)
			}
		}
	}
	if met < 8 {
		t.Errorf("it was there %d times", met)
	}
}

// layUnsafe lays the file of an object as another program would that has not made it safe.
func layUnsafe(t *testing.T, d *api.Disk, o api.Object) api.ID {
	t.Helper()
	b, err := object.Encode(o)
	done(t, "Encode", err)
	id := idOf(t, o)
	name := "objects/" + hex(id)[:2] + "/" + hex(id)[2:]
	done(t, "Create", d.Create(name))
	done(t, "Append", d.Append(name, deflate.Deflate(b)))
	return id
}

// TestLaidUnsafe: 13.9 and P16, objects that others have laid, and not made safe: what the repository tells is, and so is what refs lead to.
func TestLaidUnsafe(t *testing.T) {
	for what, call := range map[string]func(r *repo.Repo, id api.ID) error{
		"Branch":  func(r *repo.Repo, id api.ID) error { return r.Branch("new", hex(id)) },
		"Tag":     func(r *repo.Repo, id api.ID) error { _, err := r.Tag("new", hex(id), ann, ""); return err },
		"forward": func(r *repo.Repo, id api.ID) error { _, err := r.Merge(hex(id), ann, ""); return err },
		"nothing": func(r *repo.Repo, id api.ID) error { return nil },
	} {
		for dir := range uint(3) {
			d, r := create(t)
			first := commit(t, r, "f", "1")
			root := layUnsafe(t, d, tree(t, api.TreeEntry{Mode: api.FileMode, Name: "g", ID: layUnsafe(t, d, blob("2"))}))
			id := layUnsafe(t, d, commitObject(t, root, first))
			r = open(t, d)
			done(t, what, call(r, id))
			was := told(t, r)
			d.Crash(dir, 0)
			r = open(t, d)
			allThere(t, what, r)
			if now := told(t, r); now != was {
				t.Errorf("%s: it told\n%s, and behind a crash\n%s", what, was, now)
			}
			shows(t, r, hex(id), "g", "2")
		}
	}
}

// TestCollectSafe: 13.8 and 13.9, whatever fails within Collect, all that refs and logs reach is there to the byte.
func TestCollectSafe(t *testing.T) {
	w := world(t)
	kept := w.Copy()
	r := open(t, kept)
	done(t, "Collect", r.Collect())
	want, err := r.Objects()
	done(t, "Objects", err)
	for after := 0; ; after++ {
		d := w.Copy()
		r := open(t, d)
		d.Fail(after, forever)
		failed := r.Collect() != nil
		d.Crash(uint(after)*7, uint(after)*3)
		got, err := open(t, d).Objects()
		done(t, "Objects", err)
		for _, o := range want {
			if !slices.ContainsFunc(got, func(x api.Object) bool { return x.Kind == o.Kind && bytes.Equal(x.Data, o.Data) }) {
				t.Fatalf("behind %d operations: %q is lost", after, o.Data)
			}
		}
		if !failed {
			break
		}
	}
}
