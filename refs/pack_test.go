package refs_test

import (
	"testing"

	"gitlike/api"
	"gitlike/refs"
)

// pack wants Pack to change nothing that can be told, of the refs and of ones that are opened.
func pack(t *testing.T, name string, r *refs.Refs, d *api.Disk) {
	t.Helper()
	before := told(r)
	if err := r.Pack(); err != nil {
		t.Fatalf("%s: Pack: %v", name, err)
	}
	if told(r) != before {
		t.Fatalf("%s: Pack changed something", name)
	}
	bothTell(t, name, r, d)
}

// TestPack: 7.5, of refs as they are, and of none.
func TestPack(t *testing.T) {
	d := roomy()
	r := open(t, d)
	pack(t, "none", r, d)
	r = mixed(t, d)
	pack(t, "some", r, d)
	pack(t, "again", r, d)
	update(t, r, "more", from("HEAD", id(2), id(3)))
	pack(t, "more", r, d)
	pack(t, "opened again", open(t, d), d)
	before := len(bytesOf(t, d, theFile))
	for range 20 {
		update(t, r, "made", from("refs/z", nought, id(1)))
		update(t, r, "gone", from("refs/z", id(1), nought))
	}
	long := len(bytesOf(t, d, theFile))
	pack(t, "what is gone", r, d)
	if n := len(bytesOf(t, d, theFile)); n != before || n >= long {
		t.Errorf("behind Pack the file has %d bytes, ahead of it %d, and %d at first", n, long, before)
	}
}

// TestPackAnew: 7.5, files that were removed, or of which bits were turned, since the refs were opened.
func TestPackAnew(t *testing.T) {
	for _, opened := range []bool{false, true} {
		lay := func() (*refs.Refs, *api.Disk) {
			d := roomy()
			r := mixed(t, d)
			if opened {
				r = open(t, d)
			}
			return r, d
		}
		r, d := lay()
		for _, name := range d.List() {
			d.Remove(name)
		}
		pack(t, "removed", r, d)
		d.Crash(99, 0)
		bothTell(t, "removed, and a crash", r, d)
		r, d = lay()
		size := uint(len(bytesOf(t, d, theFile)))
		for bit := uint(0); bit < 8*size; bit += 37 {
			d.Flip(theFile, bit)
			pack(t, "bits turned", r, d)
			update(t, r, "more", from("refs/z", nought, id(1)))
			update(t, r, "gone", from("refs/z", id(1), nought))
		}
		r, d = lay()
		write(t, d, theFile+".new", []byte("left over"))
		pack(t, "left over", r, d)
		if l := d.List(); len(l) != 1 {
			t.Errorf("files: %q", l)
		}
	}
}

// TestRemoved: files that were removed are no hindrance to other calls.
func TestRemoved(t *testing.T) {
	for _, do := range []func(r *refs.Refs){
		func(r *refs.Refs) { update(t, r, "more", from("refs/z", nought, id(1))) },
		func(r *refs.Refs) { link(t, r, "refs/z", "refs/y") },
		func(r *refs.Refs) { expire(t, r, "HEAD", 1) },
	} {
		d := roomy()
		r := mixed(t, d)
		d.Remove(theFile)
		do(r)
		bothTell(t, "removed", r, d)
		d.Crash(99, 0)
		bothTell(t, "removed, and a crash", r, d)
	}
}
