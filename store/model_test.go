package store_test

import (
	"math/rand"
	"slices"
	"strconv"
	"testing"

	"gitlike/api"
	"gitlike/store"
)

// player plays a store by lot, with operations that fail, and crashes, and holds it against what is known.
type player struct {
	t     *testing.T
	r     *rand.Rand
	d     *api.Disk
	s     *store.Store
	texts []string
	sure  map[string]int // what a crash cannot take
	may   map[string]int // what may be there beside, and be spoilt
}

func newPlayer(t *testing.T, seed int64, room int) *player {
	p := &player{t: t, r: rand.New(rand.NewSource(seed)), d: api.NewDisk(room), sure: map[string]int{}, may: map[string]int{}}
	for i := range 12 {
		x := strconv.Itoa(i)
		if i%2 == 0 {
			x += long[:27*p.r.Intn(40)]
		}
		p.texts = append(p.texts, x)
	}
	p.s = open(t, p.d)
	return p
}

// some is some of the texts.
func (p *player) some(of []string) []string {
	var l []string
	for _, x := range of {
		if p.r.Intn(3) == 0 {
			l = append(l, x)
		}
	}
	p.r.Shuffle(len(l), func(i, j int) { l[i], l[j] = l[j], l[i] })
	return l
}

// told is the texts that the store tells.
func (p *player) told() []string {
	all := p.s.All()
	return slices.DeleteFunc(slices.Clone(p.texts), func(x string) bool { return !slices.Contains(all, idOf(x)) })
}

// step makes a call, of which operations may fail.
func (p *player) step() {
	failing := p.r.Intn(2) == 0
	l := p.some(p.texts)
	thin := thinOf(p.t, p.some(p.told()), l...)
	keep := p.some(p.told())
	if failing {
		p.d.Fail(p.r.Intn(25), []int{1, 3, forever}[p.r.Intn(3)])
	}
	kind := p.r.Intn(4)
	var err error
	switch kind {
	case 0, 1:
		l = p.texts[p.r.Intn(len(p.texts)):][:1]
		_, err = p.s.Put(blob(l[0]))
	case 2:
		_, err = p.s.AddPack(thin)
	case 3:
		err = p.s.Repack(idsOf(keep...))
	}
	p.d.Fail(0, 0)
	switch e := api.Tell(err); {
	case e == api.ErrBase && kind == 2, e == api.ErrCorrupt && kind == 3:
		// A base, or what is to be kept, is spoilt: nothing is done.
	case e != api.OK && e != api.ErrRoom && (e != api.ErrDisk || !failing):
		p.t.Fatalf("%v", err)
	case kind == 3:
		p.repacked(keep, err)
	default:
		p.added(l, err)
	}
}

// spoil turns a bit of a loose object about.
func (p *player) spoil() {
	for _, x := range p.some(p.texts) {
		p.d.Flip(looseName(x), uint(p.r.Intn(1000)))
	}
	left := open(p.t, p.d)
	for _, x := range p.texts {
		if _, err := p.s.Get(idOf(x)); p.sure[x] > 0 && (err != nil || !left.Has(idOf(x))) {
			delete(p.sure, x)
			p.may[x] = 1
		}
	}
}

// added is what is known behind a Put or an AddPack.
func (p *player) added(l []string, err error) {
	for _, x := range l {
		if err == nil {
			p.sure[x] = 1
		} else {
			p.may[x] = 1
		}
	}
	if err == nil && len(l) > 0 {
		// What was found without being sure is so now, if it is not spoilt.
		p.sureOf(p.s, open(p.t, p.d))
	}
}

// sureOf is sure of all that the one store has, and the other one found.
func (p *player) sureOf(one, two *store.Store) {
	for _, x := range p.texts {
		_, err := one.Get(idOf(x))
		if err == nil && two.Has(idOf(x)) {
			p.sure[x] = 1
		}
	}
}

// repacked is what is known behind a Repack.
func (p *player) repacked(keep []string, err error) {
	if err == nil {
		clear(p.may)
		clear(p.sure)
		for _, x := range keep {
			p.sure[x] = 1
		}
		return
	}
	for _, x := range p.texts {
		if p.sure[x] > 0 && !slices.Contains(keep, x) {
			delete(p.sure, x)
			p.may[x] = 1
		}
	}
}

// look holds a store against what is known.
func (p *player) look(s *store.Store) {
	p.t.Helper()
	for x := range p.sure {
		gets(p.t, "what is sure", s, x)
	}
	for _, id := range s.All() {
		o, err := s.Get(id)
		x := string(o.Data)
		if err != nil {
			isOf(p.t, "spoilt", err, id, api.ErrCorrupt)
			x = p.texts[slices.IndexFunc(p.texts, func(x string) bool { return idOf(x) == id })]
		}
		if p.sure[x] == 0 && p.may[x] == 0 || p.sure[x] > 0 && err != nil {
			p.t.Fatalf("it has %.20q, %v", x, err)
		}
	}
}

// TestByLot: 6.3 to 6.6, calls one behind another, with failures, crashes and stores that are opened without one.
func TestByLot(t *testing.T) {
	for seed := range int64(160) {
		room := 1 << 20
		if seed%4 == 0 {
			room = 200 + int(seed)*10
		}
		p := newPlayer(t, seed, room)
		for range 25 {
			p.step()
			p.look(p.s)
			p.look(open(t, p.d))
			switch p.r.Intn(6) {
			case 0:
				p.d.Crash(uint(p.r.Intn(30)), uint(p.r.Intn(300)))
				p.s = open(t, p.d)
				p.look(p.s)
				// What a crash has left is safe.
				p.sureOf(p.s, p.s)
			case 1:
				p.s = open(t, p.d)
			case 2:
				p.spoil()
			}
		}
	}
}
