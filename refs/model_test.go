package refs_test

import (
	"maps"
	"math/rand"
	"slices"
	"strconv"
	"strings"
	"testing"

	"gitlike/api"
	"gitlike/refs"
)

// model is refs without a disk, as chapter 7 tells them.
type model struct {
	ids  map[string]api.ID
	to   map[string]string
	logs map[string][]api.LogEntry // of each ref that is there
}

func newModel() *model {
	return &model{map[string]api.ID{}, map[string]string{}, map[string][]api.LogEntry{}}
}

func (m *model) clone() *model {
	c := &model{maps.Clone(m.ids), maps.Clone(m.to), map[string][]api.LogEntry{}}
	for name, l := range m.logs {
		c.logs[name] = slices.Clone(l)
	}
	return c
}

func (m *model) there(name string) bool {
	_, there := m.logs[name]
	return there
}

func (m *model) Read(name string) (api.ID, error) {
	if !refs.IsName(name) {
		return nought, api.ErrName
	}
	for led := 0; ; led++ {
		if led > 8 {
			return nought, api.ErrLoop
		}
		if !m.there(name) && led <= 8 {
			return nought, api.ErrNoRef
		}
		if m.to[name] == "" {
			return m.ids[name], nil
		}
		name = m.to[name]
	}
}

func (m *model) Target(name string) (string, error) {
	switch {
	case !refs.IsName(name):
		return "", api.ErrName
	case m.to[name] == "":
		return "", api.ErrNoRef
	}
	return m.to[name], nil
}

func (m *model) Log(name string) ([]api.LogEntry, error) {
	switch {
	case !refs.IsName(name):
		return nil, api.ErrName
	case !m.there(name):
		return nil, api.ErrNoRef
	}
	return m.logs[name], nil
}

func (m *model) List(prefix string) []api.Ref {
	var l []api.Ref
	for name := range m.logs {
		if id, err := m.Read(name); err == nil && strings.HasPrefix(name, prefix) {
			l = append(l, api.Ref{Name: name, ID: id})
		}
	}
	slices.SortFunc(l, func(x, y api.Ref) int { return strings.Compare(x.Name, y.Name) })
	return l
}

func (m *model) clashes() bool {
	for x := range m.logs {
		for y := range m.logs {
			if strings.HasPrefix(y, x+"/") {
				return true
			}
		}
	}
	return false
}

// update is what would be behind an Update, and its error.
func (m *model) update(l []api.Change, who api.Person, text string) (*model, api.Errno) {
	for _, c := range l {
		if _, err := m.Read(c.Name); err == api.ErrName || err == api.ErrLoop {
			return m, api.Tell(err)
		}
	}
	lastOf := func(name string) string {
		for m.to[name] != "" {
			name = m.to[name]
		}
		return name
	}
	for i, c := range l {
		for _, x := range l[:i] {
			if lastOf(c.Name) == lastOf(x.Name) {
				return m, api.ErrName
			}
		}
	}
	for _, c := range l {
		if m.ids[lastOf(c.Name)] != c.Old {
			return m, api.ErrStale
		}
	}
	n := m.clone()
	for _, c := range l {
		end := lastOf(c.Name)
		if c.New == nought {
			delete(n.ids, end)
			delete(n.logs, end)
		} else {
			n.ids[end] = c.New
			n.logs[end] = append(n.logs[end], api.LogEntry{Old: c.Old, New: c.New, Who: who, Text: text})
		}
		for name := c.Name; name != end; name = m.to[name] {
			n.logs[name] = append(n.logs[name], api.LogEntry{Old: c.Old, New: c.New, Who: who, Text: text})
		}
	}
	switch {
	case n.clashes():
		return m, api.ErrClash
	case who.Time < 0 || strings.Contains(text, "\n"):
		return m, api.ErrAuthor
	}
	return n, api.OK
}

// link likewise, of a Link.
func (m *model) link(name, target string) (*model, api.Errno) {
	switch {
	case !refs.IsName(name) || !refs.IsName(target):
		return m, api.ErrName
	case name == target:
		return m, api.ErrLoop
	}
	n := m.clone()
	delete(n.ids, name)
	n.to[name] = target
	n.logs[name] = append([]api.LogEntry{}, n.logs[name]...)
	if n.clashes() {
		return m, api.ErrClash
	}
	return n, api.OK
}

// expire likewise, of an Expire.
func (m *model) expire(name string, keep int) (*model, api.Errno) {
	l, err := m.Log(name)
	if err != nil {
		return m, api.Tell(err)
	}
	n := m.clone()
	for len(l) > max(keep, 0) {
		l = l[1:]
	}
	n.logs[name] = append([]api.LogEntry{}, l...)
	return n, api.OK
}

// player plays refs by lot, with operations that fail, and crashes, and holds them against the model.
type player struct {
	t    *testing.T
	lot  *rand.Rand
	d    *api.Disk
	r    *refs.Refs
	m    *model
	may  []string          // what may be told behind a crash
	n    int               // how many calls were made
	ends map[api.Errno]int // how they ended
}

func (p *player) name() string {
	if p.lot.Intn(40) == 0 {
		return badNames[p.lot.Intn(len(badNames))]
	}
	return used[p.lot.Intn(len(used))]
}

// change is one of a ref: mostly one that can be done.
func (p *player) change() api.Change {
	c := api.Change{Name: p.name(), New: id(byte(1 + p.lot.Intn(250)))}
	if p.lot.Intn(5) == 0 {
		c.New = nought
	}
	c.Old, _ = p.m.Read(c.Name)
	if p.lot.Intn(20) == 0 {
		c.Old = id(byte(p.lot.Intn(3)))
	}
	return c
}

// call makes a call, and tells what would be behind it, and its error without failures.
func (p *player) call() (next *model, want api.Errno, err error) {
	p.n++
	switch p.lot.Intn(10) {
	case 0, 1, 2, 3, 4:
		var l []api.Change
		for range p.lot.Intn(4) {
			l = append(l, p.change())
		}
		who, text := ann, "call "+strconv.Itoa(p.n)
		if p.lot.Intn(40) == 0 {
			who.Time = -1
		}
		if p.lot.Intn(40) == 0 {
			text += "\n"
		}
		next, want = p.m.update(l, who, text)
		return next, want, p.r.Update(l, who, text)
	case 5, 6, 7:
		name, target := p.name(), p.name()
		next, want = p.m.link(name, target)
		return next, want, p.r.Link(name, target)
	case 8:
		name, keep := p.name(), p.lot.Intn(7)-2
		next, want = p.m.expire(name, keep)
		return next, want, p.r.Expire(name, keep)
	}
	return p.m, api.OK, p.r.Pack()
}

// step makes a call, of which operations may fail.
func (p *player) step() {
	failing := p.lot.Intn(3) == 0
	if failing {
		p.d.Fail(p.lot.Intn(9), []int{1, 2, 3, forever}[p.lot.Intn(4)])
	}
	next, want, err := p.call()
	switch e := api.Tell(err); {
	case e == api.ErrDisk && failing, e == api.ErrRoom:
		if want != api.OK {
			p.t.Fatalf("%v for %d", err, want)
		}
		if told(p.r) == told(next) {
			p.m = next
			p.may = append(p.may, told(next))
		}
	case e != want:
		p.t.Fatalf("%v for %d", err, want)
	case e == api.OK:
		p.m = next
		p.may = []string{told(next)}
	}
	p.ends[api.Tell(err)]++
	p.look(p.r)
	p.look(open(p.t, p.d.Copy()))
	p.d.Fail(0, 0)
}

// look holds refs against the model.
func (p *player) look(r *refs.Refs) {
	p.t.Helper()
	if told(r) != told(p.m) {
		p.t.Fatalf("behind %d calls: they tell otherwise", p.n)
	}
}

// crash lets a crash come, and the model be what it has left.
func (p *player) crash(models ...*model) {
	p.d.Crash(uint(p.lot.Intn(9)), uint(p.lot.Intn(900)))
	p.r = open(p.t, p.d)
	got := told(p.r)
	if !slices.Contains(p.may, got) {
		p.t.Fatalf("behind %d calls, and a crash: they tell otherwise", p.n)
	}
	p.may = []string{got}
	for _, m := range models {
		if told(m) == got {
			p.m = m
		}
	}
	p.look(p.r)
}

// TestByLot: 7.3 to 7.6, calls one behind another, with failures, crashes, and refs that are opened without one.
func TestByLot(t *testing.T) {
	ends := map[api.Errno]int{}
	for seed := range int64(150) {
		room := 1 << 20
		if seed%4 == 0 {
			room = 300 + int(seed)*20
		}
		d := api.NewDisk(room)
		p := &player{t: t, lot: rand.New(rand.NewSource(seed)), d: d, r: open(t, d), m: newModel(), ends: ends}
		p.may = []string{told(p.m)}
		past := []*model{p.m}
		for range 60 {
			before := p.m
			p.step()
			past = append(past, before, p.m)
			switch p.lot.Intn(8) {
			case 0:
				p.crash(past...)
			case 1:
				p.r = open(t, d)
				p.look(p.r)
				p.may = []string{told(p.m)}
			}
		}
	}
	for _, e := range []api.Errno{api.OK, api.ErrDisk, api.ErrRoom, api.ErrName, api.ErrNoRef, api.ErrStale, api.ErrClash, api.ErrLoop, api.ErrAuthor} {
		if ends[e] < 20 {
			t.Errorf("only %d calls ended with %d", ends[e], e)
		}
	}
}
