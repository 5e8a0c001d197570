package store_test

import (
	"slices"
	"strconv"
	"testing"

	"gitlike/api"
)

// numbers is so many short texts.
func numbers(n int) []string {
	var l []string
	for i := range n {
		l = append(l, strconv.Itoa(i))
	}
	return l
}

// mixed is a store whose objects lie in all ways: loose, in two packs, twice.
func mixed(t *testing.T, d *api.Disk) []string {
	t.Helper()
	s := open(t, d)
	put(t, s, "a", "b", long)
	addPack(t, s, packOf(t, "b", "c", long+"more"), "b", "c", long+"more")
	addPack(t, s, packOf(t, "d", "c", long), "d", "c", long)
	return []string{"a", "b", "c", "d", long, long + "more"}
}

// TestRepack: 6.5, all and some of what is there, and what is left on the disk.
func TestRepack(t *testing.T) {
	for _, keep := range [][]string{
		nil,
		{"a"},
		{"b"},
		{"c", "a"},
		{long + "more"},
		{"a", "b", "c", "d", long, long + "more"},
		{"d", "a", "d", "d", long, "a"},
	} {
		d := roomy()
		write(t, d, "notes", []byte("no object"))
		write(t, d, "refs/heads/main", []byte("no object either"))
		all := mixed(t, d)
		s := open(t, d)
		has(t, "ahead", s, all...)
		for range 3 {
			repack(t, s, keep...)
			bothHave(t, "repacked", s, d, keep...)
			isRepacked(t, "repacked", d, uniqueOf(keep)...)
		}
		for _, x := range all {
			if !slices.Contains(keep, x) {
				fails(t, "dropped", s, x, api.ErrMissing)
			}
		}
		if string(bytesOf(t, d, "notes")) != "no object" || string(bytesOf(t, d, "refs/heads/main")) != "no object either" {
			t.Error("files of others are changed")
		}
		put(t, s, all...)
		bothHave(t, "put again", s, d, all...)
	}
}

// TestRepackOnNothing: of a disk without files.
func TestRepackOnNothing(t *testing.T) {
	d := roomy()
	s := open(t, d)
	repack(t, s)
	bothHave(t, "nothing", s, d)
	if l := d.List(); len(l) > 0 {
		t.Errorf("files: %q", l)
	}
}

// TestRepackSame: 6.5, one pack comes of the same ids, in whatever order they are.
func TestRepackSame(t *testing.T) {
	d := roomy()
	all := mixed(t, d)
	s := open(t, d)
	repack(t, s, all...)
	before := picture(t, d)
	slices.Reverse(all)
	repack(t, s, all...)
	repack(t, open(t, d), append(all, all...)...)
	if picture(t, d) != before {
		t.Error("the disk is changed")
	}
	bothHave(t, "the same", s, d, all...)
}

// TestRepackRefused: 6.5, its errors in their order; nothing is changed.
func TestRepackRefused(t *testing.T) {
	d := roomy()
	s := open(t, d)
	texts := numbers(api.MaxObjects + 1)
	b := packOf(t, texts[1:]...)
	addPack(t, s, b, texts[1:]...)
	put(t, s, texts[0], "loose")
	before := picture(t, d)
	none := api.ID{7}
	tooMany := idsOf(texts...)
	for _, c := range []struct {
		name string
		keep []api.ID
		id   api.ID
	}{
		{"one that is not there", []api.ID{none}, none},
		{"the last one is not there", append(idsOf("loose", "1"), none), none},
		{"two are not there", []api.ID{idOf("1"), {8}, none}, api.ID{8}},
		{"nought", []api.ID{{}}, api.ID{}},
		{"too many, and one that is not there", append(slices.Clone(tooMany), none), none},
	} {
		isOf(t, c.name, s.Repack(c.keep), c.id, api.ErrMissing)
	}
	for range 2 {
		if err := s.Repack(tooMany); api.Tell(err) != api.ErrPack {
			t.Errorf("too many, one of them spoilt or not: %v", err)
		}
		d.Flip(looseName(texts[0]), 99)
	}
	if picture(t, d) != before {
		t.Error("the disk is changed")
	}
	bothHave(t, "refused", s, d, append(texts, "loose")...)
	// So many are not too many, each of them twice.
	repack(t, s, append(texts[1:], texts[1:]...)...)
	bothHave(t, "MaxObjects", s, d, texts[1:]...)
	isRepacked(t, "MaxObjects", d, texts[1:]...)
}

// TestRepackSpoilt: 6.5, files that are spoilt and not kept, told or not, go with all others; what is spoilt and is to be kept is told, and nothing is changed.
func TestRepackSpoilt(t *testing.T) {
	d := roomy()
	all := mixed(t, d)
	s := open(t, d)
	lost := packOf(t, "lost", "gone")
	addPack(t, s, lost, "lost", "gone")
	junk := packOf(t, "junk")
	write(t, d, looseName("junk"), []byte("junk"))
	write(t, d, stemOf(junk)+".idx", idxOf(t, junk))
	write(t, d, "objects/new-0", []byte("left over"))
	d.Flip(looseName("a"), 99)
	d.Flip(stemOf(lost)+".pack", 8*15)
	before := picture(t, d)
	for _, keep := range [][]string{{"b", "a"}, {"lost", "gone", "b"}} {
		if err := s.Repack(idsOf(keep...)); api.Tell(err) != api.ErrCorrupt {
			t.Errorf("spoilt, and to be kept: %v", err)
		}
	}
	isOf(t, "spoilt, and to be kept", s.Repack(idsOf("b", "a")), idOf("a"), api.ErrCorrupt)
	if picture(t, d) != before {
		t.Error("the disk is changed")
	}
	for _, again := range []bool{true, false} {
		d, s := d, s
		if again {
			d = d.Copy()
			s = open(t, d)
		}
		repack(t, s, all[1:]...)
		bothHave(t, "repacked", s, d, all[1:]...)
		isRepacked(t, "repacked", d, all[1:]...)
		fails(t, "dropped", s, "a", api.ErrMissing)
		fails(t, "dropped", s, "lost", api.ErrMissing)
	}
}

// TestRepackPartly: a pack of which one object is spoilt gives the others.
func TestRepackPartly(t *testing.T) {
	d := roomy()
	s := open(t, d)
	b := packOf(t, "first", "second", "third")
	addPack(t, s, b, "first", "second", "third")
	d.Flip(stemOf(b)+".pack", 8*16)
	fails(t, "spoilt", s, "first", api.ErrCorrupt)
	repack(t, s, "third", "second")
	bothHave(t, "the others", s, d, "third", "second")
	isRepacked(t, "the others", d, "third", "second")
}

// TestRepackTaken: 6.5, files of other bytes have the names that the new pack needs.
func TestRepackTaken(t *testing.T) {
	first := roomy()
	all := mixed(t, first)
	for _, keep := range [][]string{{"a"}, {"b", "c", long}, all} {
		done := first.Copy()
		repack(t, open(t, done), keep...)
		names := done.List()
		other := packOf(t, "other")
		for name, files := range map[string][][]byte{
			"noise":              {[]byte("noise"), []byte("noise")},
			"another pack":       {idxOf(t, other), other},
			"an index of noise":  {[]byte("noise"), nil},
			"a pack of noise":    {nil, []byte("noise")},
			"the pack itself":    {nil, bytesOf(t, done, names[1])},
			"the index itself":   {bytesOf(t, done, names[0]), nil},
			"and another pack":   {bytesOf(t, done, names[0]), other},
			"and another index":  {idxOf(t, other), bytesOf(t, done, names[1])},
			"both of them":       {bytesOf(t, done, names[0]), bytesOf(t, done, names[1])},
			"a pack of no bytes": {bytesOf(t, done, names[0]), {}},
		} {
			d := first.Copy()
			for i, b := range files {
				if b != nil {
					write(t, d, names[i], b)
				}
			}
			s := open(t, d)
			has(t, name, s, all...)
			repack(t, s, keep...)
			bothHave(t, name, s, d, keep...)
			if picture(t, d) != picture(t, done) {
				t.Errorf("%s: other files than where no name is taken", name)
			}
		}
	}
}

// TestRepackOverSpoilt: 6.5, the pack that it would write was there, and a bit of it, or of its index, turned behind Open.
func TestRepackOverSpoilt(t *testing.T) {
	keep := []string{"b", "c", long, long + "more"}
	first := roomy()
	mixed(t, first)
	repack(t, open(t, first), keep...)
	want := picture(t, first)
	for _, name := range first.List() {
		for bit := range uint(8 * len(bytesOf(t, first, name))) {
			if bit%37 != 0 {
				continue
			}
			d := first.Copy()
			s := open(t, d)
			d.Flip(name, bit)
			if err := s.Repack(idsOf(keep...)); api.Tell(err) == api.ErrCorrupt {
				continue
			} else if err != nil {
				t.Fatal(err)
			}
			bothHave(t, "a bit turned", s, d, keep...)
			if picture(t, d) != want {
				t.Errorf("bit %d of %s", bit, name)
			}
		}
	}
}
