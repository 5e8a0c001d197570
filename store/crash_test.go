package store_test

import (
	"slices"
	"testing"

	"gitlike/api"
	"gitlike/store"
)

// act is a call that is made of a store, on a disk that is laid for it.
type act struct {
	name  string
	lay   func(t *testing.T, d *api.Disk) *store.Store
	do    func(s *store.Store) error
	keeps []string // what is there, whatever comes
	may   []string // what may be there too, if it is not done, and be spoilt
	ends  []string // just what is there, if it is done
	lossy bool     // what is laid is not safe, or spoilt: a crash may take what is told
}

// model has what mixed lays: it is laid once, and copied often.
var model *api.Disk

// fresh lays what mixed does, and opens the store behind it.
func fresh(t *testing.T, d *api.Disk) *store.Store {
	t.Helper()
	if model == nil {
		model = roomy()
		mixed(t, model)
	}
	for _, name := range model.List() {
		write(t, d, name, bytesOf(t, model, name))
	}
	return open(t, d)
}

// settled likewise, and lets the store make all of it safe.
func settled(t *testing.T, d *api.Disk) *store.Store {
	t.Helper()
	s := fresh(t, d)
	put(t, s, "a")
	return s
}

// kept is what fresh lays.
var kept = []string{"a", "b", "c", "d", long, long + "more"}

// with is texts, and one more.
func with(texts []string, more ...string) []string { return slices.Concat(texts, more) }

// loose lays a file of an object as another program would that has not made it safe.
func loose(t *testing.T, d *api.Disk, text string) {
	t.Helper()
	d.Create(looseName(text))
	if err := d.Append(looseName(text), squeezed(encoded(text))); err != nil {
		t.Fatal(err)
	}
}

// unsafePack lays a pack, and its index, likewise.
func unsafePack(t *testing.T, d *api.Disk, b []byte) {
	t.Helper()
	d.Create(stemOf(b) + ".pack")
	d.Append(stemOf(b)+".pack", b)
	d.Create(stemOf(b) + ".idx")
	d.Append(stemOf(b)+".idx", idxOf(t, b))
}

func putting(text string) func(s *store.Store) error {
	return func(s *store.Store) error {
		_, err := s.Put(blob(text))
		return err
	}
}

func adding(b []byte) func(s *store.Store) error {
	return func(s *store.Store) error {
		_, err := s.AddPack(b)
		return err
	}
}

func keeping(texts ...string) func(s *store.Store) error {
	return func(s *store.Store) error { return s.Repack(idsOf(texts...)) }
}

// puts is the acts that put an object.
func puts() []act {
	return []act{
		{"Put", fresh, putting("x"), kept, []string{"x"}, with(kept, "x"), false},
		{"the first Put", open, putting("x"), nil, []string{"x"}, []string{"x"}, false},
		{"Put again", fresh, putting("a"), kept, nil, kept, false},
		{"Put of what is in a pack", fresh, putting("d"), kept, nil, kept, false},
		{"Put over noise", func(t *testing.T, d *api.Disk) *store.Store {
			write(t, d, looseName("x"), []byte("noise"))
			return fresh(t, d)
		}, putting("x"), kept, []string{"x"}, with(kept, "x"), false},
		{"Put over what is spoilt", func(t *testing.T, d *api.Disk) *store.Store {
			s := fresh(t, d)
			d.Flip(looseName("a"), 99)
			return s
		}, putting("a"), kept[1:], []string{"a"}, kept, true},
		{"Put of another", settled, putting("x"), kept, []string{"x"}, with(kept, "x"), false},
		{"Put over what is spoilt, and all else is safe", func(t *testing.T, d *api.Disk) *store.Store {
			s := settled(t, d)
			d.Flip(looseName("a"), 99)
			return s
		}, putting("a"), kept[1:], []string{"a"}, kept, true},
		{"Put of what is not safe", func(t *testing.T, d *api.Disk) *store.Store {
			loose(t, d, "x")
			return open(t, d)
		}, putting("x"), nil, []string{"x"}, []string{"x"}, true},
		{"Put beside what is not safe", func(t *testing.T, d *api.Disk) *store.Store {
			loose(t, d, "x")
			unsafePack(t, d, packOf(t, "y", "z"))
			return open(t, d)
		}, putting("a"), nil, []string{"a", "x", "y", "z"}, []string{"a", "x", "y", "z"}, true},
		{"Put of what is in a pack that is not safe", func(t *testing.T, d *api.Disk) *store.Store {
			unsafePack(t, d, packOf(t, "y", "z"))
			return open(t, d)
		}, putting("y"), nil, []string{"y", "z"}, []string{"y", "z"}, true},
		{"Put where files are left over", func(t *testing.T, d *api.Disk) *store.Store {
			write(t, d, "objects/new-0", []byte("left over"))
			write(t, d, "objects/new-1", []byte("left over"))
			return fresh(t, d)
		}, putting("x"), kept, []string{"x"}, with(kept, "x"), false},
	}
}

// adds is the acts that add a pack.
func adds(t *testing.T) []act {
	whole := packOf(t, "x", long+"and more", "y")
	thin := thinOf(t, []string{long}, long+"and more", "x", "y")
	more := []string{"x", long + "and more", "y"}
	all := with(kept, more...)
	other := packOf(t, "other")
	return []act{
		{"AddPack", fresh, adding(whole), kept, more, all, false},
		{"the first AddPack", open, adding(whole), nil, more, more, false},
		{"AddPack of a thin one", fresh, adding(thin), kept, more, all, false},
		{"AddPack again", func(t *testing.T, d *api.Disk) *store.Store {
			s := fresh(t, d)
			addPack(t, s, whole, more...)
			return open(t, d)
		}, adding(whole), all, nil, all, false},
		{"AddPack of what is there otherwise", func(t *testing.T, d *api.Disk) *store.Store {
			s := fresh(t, d)
			put(t, s, more...)
			return s
		}, adding(whole), all, nil, all, false},
		{"AddPack of what is not safe", func(t *testing.T, d *api.Disk) *store.Store {
			unsafePack(t, d, whole)
			return open(t, d)
		}, adding(whole), nil, more, more, true},
		{"AddPack where half of it is there, and not safe", func(t *testing.T, d *api.Disk) *store.Store {
			d.Create(stemOf(whole) + ".pack")
			d.Append(stemOf(whole)+".pack", whole)
			return fresh(t, d)
		}, adding(whole), kept, more, all, false},
		{"AddPack where the index is there", func(t *testing.T, d *api.Disk) *store.Store {
			write(t, d, stemOf(whole)+".idx", idxOf(t, whole))
			return fresh(t, d)
		}, adding(whole), kept, more, all, false},
		{"AddPack under a name that is taken", func(t *testing.T, d *api.Disk) *store.Store {
			write(t, d, stemOf(whole)+".pack", other)
			write(t, d, stemOf(whole)+".idx", idxOf(t, other))
			return fresh(t, d)
		}, adding(whole), kept, more, all, false},
		{"AddPack over what is spoilt", func(t *testing.T, d *api.Disk) *store.Store {
			s := fresh(t, d)
			addPack(t, s, whole, more...)
			d.Flip(stemOf(whole)+".idx", 99)
			return s
		}, adding(whole), kept, more, all, true},
		{"AddPack over a pack that is spoilt", func(t *testing.T, d *api.Disk) *store.Store {
			s := settled(t, d)
			addPack(t, s, whole, more...)
			d.Flip(stemOf(whole)+".pack", 8*16)
			return s
		}, adding(whole), kept, more, all, true},
		{"AddPack of a thin one over what is spoilt", func(t *testing.T, d *api.Disk) *store.Store {
			s := settled(t, d)
			put(t, s, more...)
			d.Flip(looseName("x"), 99)
			d.Flip(looseName("y"), 99)
			return s
		}, adding(thin), kept, more, all, true},
		{"AddPack where files are left over", func(t *testing.T, d *api.Disk) *store.Store {
			write(t, d, "objects/new-0", []byte("left over"))
			write(t, d, "objects/new-1", []byte("left over"))
			return fresh(t, d)
		}, adding(whole), kept, more, all, false},
	}
}

// repacks is the acts that repack.
func repacks(t *testing.T) []act {
	some := []string{"a", "c", long + "more"}
	done := roomy()
	repack(t, fresh(t, done), some...)
	names, other := done.List(), packOf(t, "other")
	return []act{
		{"Repack", fresh, keeping(some...), some, kept, some, false},
		{"Repack of all", fresh, keeping(kept...), kept, nil, kept, false},
		{"Repack of nothing", fresh, keeping(), nil, kept, nil, false},
		{"Repack of one", fresh, keeping("d"), []string{"d"}, kept, []string{"d"}, false},
		{"Repack again", func(t *testing.T, d *api.Disk) *store.Store {
			s := fresh(t, d)
			repack(t, s, some...)
			return s
		}, keeping(some...), some, nil, some, false},
		{"Repack of fewer", func(t *testing.T, d *api.Disk) *store.Store {
			s := fresh(t, d)
			repack(t, s, kept...)
			put(t, s, "x")
			return open(t, d)
		}, keeping(some...), some, with(kept, "x"), some, false},
		{"Repack under a name that is taken", func(t *testing.T, d *api.Disk) *store.Store {
			write(t, d, names[1], other)
			write(t, d, names[0], idxOf(t, other))
			return fresh(t, d)
		}, keeping(some...), some, kept, some, false},
		{"Repack where the index is there", func(t *testing.T, d *api.Disk) *store.Store {
			write(t, d, names[0], bytesOf(t, done, names[0]))
			return fresh(t, d)
		}, keeping(some...), some, kept, some, false},
		{"Repack over what is spoilt", func(t *testing.T, d *api.Disk) *store.Store {
			s := fresh(t, d)
			repack(t, s, with(some, "d")...)
			write(t, d, names[1], bytesOf(t, done, names[1]))
			write(t, d, names[0], bytesOf(t, done, names[0]))
			s = open(t, d)
			d.Flip(names[1], 8*20)
			return s
		}, keeping(some...), some, with(some, "d"), some, false},
		{"Repack beside what is not safe", func(t *testing.T, d *api.Disk) *store.Store {
			loose(t, d, "a")
			unsafePack(t, d, packOf(t, "c", "d", long+"more"))
			return open(t, d)
		}, keeping(some...), nil, with(some, "d"), some, true},
		{"Repack where files are left over", func(t *testing.T, d *api.Disk) *store.Store {
			write(t, d, "objects/new-0", []byte("left over"))
			write(t, d, "objects/new-1", []byte("left over"))
			write(t, d, looseName("x"), []byte("noise"))
			return fresh(t, d)
		}, keeping(some...), some, kept, some, false},
	}
}

// is wants a store to have what the act lets it have.
func (a act) is(t *testing.T, name string, s *store.Store, done bool) {
	t.Helper()
	if done {
		has(t, name, s, a.ends...)
		return
	}
	for _, x := range a.keeps {
		gets(t, name, s, x)
	}
	may := idsOf(slices.Concat(a.keeps, a.may)...)
	for _, id := range s.All() {
		if _, err := s.Get(id); err != nil && api.Tell(err) != api.ErrCorrupt || !slices.Contains(may, id) {
			t.Fatalf("%s: it has what it should not have: %v", name, err)
		}
	}
}

// again does the act once more, when nothing fails, and then a crash comes that takes all that may be taken.
func (a act) again(t *testing.T, name string, s *store.Store, d *api.Disk) {
	t.Helper()
	if err := a.do(s); err != nil {
		t.Fatalf("%s: done again: %v", name, err)
	}
	bothHave(t, name+": done again", s, d, a.ends...)
	d.Crash(0, 0)
	has(t, name+": done again, and a crash", open(t, d), a.ends...)
}

// broken does the act where so many operations fail behind so many, and tells whether it was done all the same.
func (a act) broken(t *testing.T, d *api.Disk, after, times int) (*store.Store, bool) {
	t.Helper()
	s := a.lay(t, d)
	d.Fail(after, times)
	err := a.do(s)
	if err != nil && api.Tell(err) != api.ErrDisk || err == nil && !stillFails(d, after) {
		t.Fatalf("%s, behind %d operations: %v", a.name, after, err)
	}
	d.Fail(0, 0)
	return s, err == nil
}

// stillFails tells whether the operation that was to fail behind so many has not come yet.
func stillFails(d *api.Disk, after int) bool {
	for range after + 1 {
		if _, err := d.Size("no such file"); api.Tell(err) == api.ErrDisk {
			return true
		}
	}
	return false
}

// forever is more operations than are ever done.
const forever = 1 << 30

// withoutCrash lets each operation fail, alone or with all behind it, and no crash comes.
func (a act) withoutCrash(t *testing.T) {
	for _, times := range []int{1, 2, forever} {
		for after := 0; ; after++ {
			d := roomy()
			s, done := a.broken(t, d, after, times)
			a.is(t, a.name, s, done)
			a.is(t, a.name+", opened again", open(t, d), done)
			if after%2 == 0 {
				s = open(t, d)
			}
			a.again(t, a.name, s, d)
			if done {
				break
			}
		}
	}
}

// withCrash lets all operations fail from some moment on, and then a crash comes, that leaves more or less.
func (a act) withCrash(t *testing.T) {
	for _, dir := range []uint{0, 1, 2, 3, 5, 8} {
		for _, tail := range []uint{0, 77} {
			for after := 0; ; after++ {
				d := roomy()
				s, done := a.broken(t, d, after, forever)
				told := s.All()
				d.Crash(dir, tail)
				s = open(t, d)
				a.is(t, a.name, s, done)
				for _, id := range told {
					if !a.lossy && !done && !s.Has(id) {
						t.Fatalf("%s, behind %d operations: what was told is lost", a.name, after)
					}
				}
				if !a.lossy && (after+int(dir))%5 == 0 {
					a.again(t, a.name, s, d)
				}
				if done {
					break
				}
			}
		}
	}
}

// TestBrokenPuts: 6.6, of Put.
func TestBrokenPuts(t *testing.T) {
	for _, a := range puts() {
		a.withoutCrash(t)
		a.withCrash(t)
	}
}

// TestBrokenAddPacks: 6.6, of AddPack.
func TestBrokenAddPacks(t *testing.T) {
	for _, a := range adds(t) {
		a.withoutCrash(t)
		a.withCrash(t)
	}
}

// TestBrokenRepacks: 6.6, of Repack.
func TestBrokenRepacks(t *testing.T) {
	for _, a := range repacks(t) {
		a.withoutCrash(t)
		a.withCrash(t)
	}
}

// TestBrokenOverSpoilt: 6.6, a Repack that replaces the one pack that has its objects: a bit of the pack's sum turned behind Open, and all in it can still be read.
func TestBrokenOverSpoilt(t *testing.T) {
	for _, times := range []int{1, forever} {
		for after := 0; ; after++ {
			d := roomy()
			s := fresh(t, d)
			repack(t, s, kept...)
			d.Flip(d.List()[1], 8*uint(len(bytesOf(t, d, d.List()[1])))-1)
			d.Fail(after, times)
			err := s.Repack(idsOf(kept...))
			d.Fail(0, 0)
			has(t, "the store itself", s, kept...)
			repack(t, s, kept...)
			bothHave(t, "repacked again", s, d, kept...)
			isRepacked(t, "repacked again", d, kept...)
			if err == nil {
				break
			}
		}
	}
}
