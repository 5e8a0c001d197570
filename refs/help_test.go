package refs_test

import (
	"errors"
	"math"
	"slices"
	"strconv"
	"strings"
	"testing"

	"gitlike/api"
	"gitlike/refs"
)

// theFile is where all refs are.
const theFile = "packed-refs"

// forever is more operations than are ever done.
const forever = 1 << 30

var ann = api.Person{Name: "Ann", Mail: "a@b", Time: 5, Zone: 60}

// nought is no id.
var nought api.ID

// id is one by its number.
func id(n byte) api.ID { return api.ID{n, 19: n} }

// roomy is a disk with room for all that is done here.
func roomy() *api.Disk { return api.NewDisk(1 << 30) }

func open(t *testing.T, d *api.Disk) *refs.Refs {
	t.Helper()
	r, err := refs.Open(d)
	if err != nil || r == nil {
		t.Fatalf("Open: %v, %v", r, err)
	}
	return r
}

// is wants an error of that number.
func is(t *testing.T, name string, err error, want api.Errno) {
	t.Helper()
	if api.Tell(err) != want {
		t.Errorf("%s: %v for %d", name, err, want)
	}
}

// from is a change of a ref.
func from(name string, from, to api.ID) api.Change {
	return api.Change{Name: name, Old: from, New: to}
}

// update makes changes, by Ann.
func update(t *testing.T, r *refs.Refs, text string, l ...api.Change) {
	t.Helper()
	if err := r.Update(l, ann, text); err != nil {
		t.Fatalf("Update of %v: %v", l, err)
	}
}

func link(t *testing.T, r *refs.Refs, name, target string) {
	t.Helper()
	if err := r.Link(name, target); err != nil {
		t.Fatalf("Link of %s to %s: %v", name, target, err)
	}
}

func expire(t *testing.T, r *refs.Refs, name string, keep int) {
	t.Helper()
	if err := r.Expire(name, keep); err != nil {
		t.Fatalf("Expire of %s: %v", name, err)
	}
}

// reads wants Read to answer that.
func reads(t *testing.T, r *refs.Refs, name string, want api.ID, e api.Errno) {
	t.Helper()
	if got, err := r.Read(name); got != want || api.Tell(err) != e {
		t.Errorf("Read(%q): %v, %v", name, got, err)
	}
}

// leads wants Target to answer that.
func leads(t *testing.T, r *refs.Refs, name, want string, e api.Errno) {
	t.Helper()
	if got, err := r.Target(name); got != want || api.Tell(err) != e {
		t.Errorf("Target(%q): %q, %v", name, got, err)
	}
}

// lists wants List to answer just those refs.
func lists(t *testing.T, r *refs.Refs, prefix string, want ...api.Ref) {
	t.Helper()
	if got := r.List(prefix); !slices.Equal(got, want) {
		t.Errorf("List(%q): %v for %v", prefix, got, want)
	}
}

// entered is an entry by Ann.
func entered(from, to api.ID, text string) api.LogEntry {
	return api.LogEntry{Old: from, New: to, Who: ann, Text: text}
}

// logs wants a ref to have just those entries.
func logs(t *testing.T, r *refs.Refs, name string, want ...api.LogEntry) {
	t.Helper()
	got, err := r.Log(name)
	if err != nil || !slices.Equal(got, want) {
		t.Errorf("Log(%q): %v, %v, for %v", name, got, err, want)
	}
}

// noLog wants Log to answer that error.
func noLog(t *testing.T, r *refs.Refs, name string, want api.Errno) {
	t.Helper()
	got, err := r.Log(name)
	if len(got) != 0 {
		t.Errorf("Log(%q): %v", name, got)
	}
	is(t, "Log of "+name, err, want)
}

// used is the names that the tests give.
var used = []string{
	"HEAD", "refs/a", "refs/a/b", "refs/a/b/c", "refs/b", "refs/c", "refs/d", "refs/e", "refs/f", "refs/g", "refs/h", "refs/i", "refs/j", "refs/k",
	"refs/heads/main", "refs/heads/main/x", "refs/heads/side", "refs/tags/v", "refs/x", "refs/y", "refs/z",
}

// teller tells what refs do.
type teller interface {
	Read(name string) (api.ID, error)
	Target(name string) (string, error)
	Log(name string) ([]api.LogEntry, error)
	List(prefix string) []api.Ref
}

// told is all that refs tell of those names.
func told(r teller) string {
	var all strings.Builder
	say := func(parts ...string) { all.WriteString(strings.Join(parts, "|") + "\n") }
	for _, name := range used {
		i, e1 := r.Read(name)
		s, e2 := r.Target(name)
		l, e3 := r.Log(name)
		say(name, string(i[:]), number(e1), s, number(e2), number(e3))
		for _, e := range l {
			say(string(e.Old[:]), string(e.New[:]), e.Who.Name, e.Who.Mail, strconv.Itoa(int(e.Who.Time)), strconv.Itoa(e.Who.Zone), e.Text)
		}
	}
	for _, x := range r.List("") {
		say(x.Name, string(x.ID[:]))
	}
	return all.String()
}

// number is an error as text.
func number(err error) string { return strconv.Itoa(int(api.Tell(err))) }

// bothTell wants refs that are opened on the disk, and on a copy of it, to tell what these do.
func bothTell(t *testing.T, name string, r *refs.Refs, d *api.Disk) {
	t.Helper()
	want := told(r)
	if told(open(t, d.Copy())) != want {
		t.Fatalf("%s: opened on a copy, they tell otherwise", name)
	}
	if told(open(t, d)) != want {
		t.Fatalf("%s: opened again, they tell otherwise", name)
	}
}

// write writes a file that is safe.
func write(t *testing.T, d *api.Disk, name string, b []byte) {
	t.Helper()
	err := errors.Join(d.Create(name), d.Append(name, b), d.Sync(name), d.SyncDir())
	if err != nil {
		t.Fatal(err)
	}
}

// bytesOf is what a file has.
func bytesOf(t *testing.T, d *api.Disk, name string) []byte {
	t.Helper()
	b, err := d.ReadAt(name, 0, math.MaxInt)
	if err != nil {
		t.Fatal(err)
	}
	return b
}

// diskWith is a disk that has that file.
func diskWith(t *testing.T, name string, b []byte) *api.Disk {
	t.Helper()
	d := roomy()
	write(t, d, name, b)
	return d
}

// mixed makes refs of all kinds on a disk, in some calls.
func mixed(t *testing.T, d *api.Disk) *refs.Refs {
	t.Helper()
	r := open(t, d)
	link(t, r, "HEAD", "refs/heads/main")
	update(t, r, "first", from("HEAD", nought, id(1)))
	update(t, r, "second", from("HEAD", id(1), id(2)), from("refs/tags/v", nought, id(1)), from("refs/x", nought, id(9)))
	link(t, r, "refs/a", "refs/b")
	link(t, r, "refs/y", "refs/x")
	update(t, r, "gone\tand more", from("refs/y", id(9), nought))
	update(t, r, "", from("refs/heads/side", nought, id(3)))
	return r
}
