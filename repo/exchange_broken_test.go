package repo_test

import (
	"fmt"
	"maps"
	"slices"
	"testing"

	"gitlike/api"
	"gitlike/repo"
	"gitlike/wire"
)

// deed is a call of the exchange: what a player's model may be behind it (the last one, if nothing fails), and what it answers then.
type deed struct {
	name   string
	do     func(r *repo.Repo) error
	models []*model
	want   error
}

// asked is a call that changes nothing.
func (f *fair) asked(to, from *game) deed {
	m := to.model
	offer := offerOf(f.t, from.repo)
	switch f.lot.Intn(4) {
	case 0:
		return deed{"Offer", func(r *repo.Repo) error { b, err := r.Offer(); return zero(b == nil, err) }, nil, nil}
	case 1:
		_, err := m.Wants(offer)
		return deed{"Wants", func(r *repo.Repo) error { b, err := r.Wants(offer); return zero(b == nil, err) }, nil, err}
	case 2:
		want, err := from.repo.Wants(offerOf(f.t, to.repo))
		if err != nil {
			want = aWant(f.t, nil)
		}
		_, err = m.Upload(want)
		return deed{"Upload", func(r *repo.Repo) error { b, err := r.Upload(want); return zero(b == nil, err) }, nil, err}
	}
	branch, force := f.branch(), f.lot.Intn(2) == 0
	_, _, err := m.Pushes(offer, branch, force)
	return deed{"Pushes", func(r *repo.Repo) error { b, err := r.Pushes(offer, branch, force); return zero(b == nil, err) }, nil, err}
}

// fetched is a call of Fetched.
func (f *fair) fetched(to, from *game) deed {
	offer := offerOf(f.t, from.repo)
	var sent []byte
	if want, err := to.repo.Wants(offer); err == nil && f.lot.Intn(8) > 0 {
		sent, err = from.repo.Upload(want)
		bytesOf(f.t, "Upload", sent, err)
	}
	who := f.who()
	behind := to.model.clone(f.t)
	err := behind.Fetched("o", offer, sent, who)
	return deed{"Fetched", func(r *repo.Repo) error { return r.Fetched("o", offer, sent, who) }, []*model{behind}, err}
}

// received is a call of Receive: each of its changes may be the last one that is done.
func (f *fair) received(to, from *game) deed {
	l, sent := f.changes(to), []byte(nil)
	if b, err := from.repo.Pushes(offerOf(f.t, to.repo), f.branch(), true); err == nil {
		pushed, packed, err := wire.ReadPush(b)
		done(f.t, "ReadPush", err)
		l = slices.Insert(slices.DeleteFunc(l, func(x api.Change) bool { return x.Name == pushed[0].Name }), 0, pushed...)
		sent = packed
	}
	var models []*model
	for i := range len(l) + 1 {
		m := to.model.clone(f.t)
		_, err := m.Receive(aPush(f.t, sent, l[:i]...))
		done(f.t, "Receive", err)
		models = append(models, m)
	}
	b := aPush(f.t, sent, l...)
	return deed{"Receive", func(r *repo.Repo) error { b, err := r.Receive(b); return zero(b == nil, err) }, models, nil}
}

// breaks makes a call where the disk fails, and perhaps a crash comes. It is done then, or it is not, or (of Receive) it is done in part.
func (f *fair) breaks() {
	to, from := f.two()
	d := pick(f.game, []func(to, from *game) deed{f.asked, f.fetched, f.received})(to, from)
	before := to.model
	models := append([]*model{before.clone(f.t)}, d.models...)
	to.disk.Fail(f.lot.Intn(pick(f.game, []int{5, 20, 100, 300})), pick(f.game, []int{1, 2, forever}))
	err := d.do(to.repo)
	to.disk.Fail(0, 0)
	failed := api.Tell(err) == api.ErrDisk
	if !failed && !sameError(err, d.want) {
		f.t.Fatalf("%s: %v for %v", d.name, err, d.want)
	}
	how := "alone"
	if f.lot.Intn(2) == 0 {
		how = "crash"
		to.disk.Crash(uint(f.lot.Intn(40)), uint(f.lot.Intn(1000)))
		to.repo = open(f.t, to.disk)
	}
	state := to.refsState()
	i := slices.IndexFunc(models, func(m *model) bool { return m.refsState() == state })
	behind := models[len(models)-1]
	if i < 0 || !failed && state != behind.refsState() {
		f.t.Fatalf("%s, %s: %v: refs are as they never were", d.name, how, err)
	}
	to.model = models[i]
	to.model.objects = maps.Clone(behind.objects)
	to.objectsAre(d.name, before, failed)
	if failed {
		tellsTheSame(f.t, d.name, to.repo, to.disk)
		part := map[bool]string{true: "before", false: "in part"}[i == 0]
		if state == behind.refsState() {
			part = "behind"
		}
		f.counts[fmt.Sprint(d.name, " ", how, " ", part)]++
	}
}

// TestBrokenExchange: 14.7 and P16, games on disks that fail and crash.
func TestBrokenExchange(t *testing.T) {
	const tables = 8
	var each [tables]map[string]int
	t.Run("tables", func(t *testing.T) {
		for i := range int64(tables) {
			each[i] = map[string]int{}
			t.Run(fmt.Sprint(i), func(t *testing.T) {
				t.Parallel()
				for seed := i * brokenExchanges / tables; seed < (i+1)*brokenExchanges/tables; seed++ {
					f := newFair(t, seed, each[i])
					for range 40 {
						f.breaks()
						f.busy()
						for _, g := range f.all {
							g.agree()
							done(t, "Check", g.repo.Check()) // all was there, so all is there
						}
					}
				}
			})
		}
	})
	for _, what := range []string{
		"Wants alone behind", "Wants crash behind", "Upload alone behind", "Upload crash behind", "Pushes alone behind", "Pushes crash behind",
		"Fetched alone before", "Fetched alone behind", "Fetched crash before", "Fetched crash behind",
		"Receive alone before", "Receive alone in part", "Receive alone behind", "Receive crash before", "Receive crash in part", "Receive crash behind",
	} {
		n := 0
		for _, m := range each {
			n += m[what]
		}
		if n < 3 {
			t.Errorf("%s: %d times", what, n)
		}
	}
}

// busy lets players go on in between: a commit, a branch that was fetched, a collection.
func (f *fair) busy() {
	g := f.one()
	switch f.lot.Intn(3) {
	case 0:
		files := g.files()
		got, err := g.repo.Commit(files, ann, "m")
		want, wantErr := g.model.Commit(files, ann, "m")
		g.same("Commit", got, want, err, wantErr)
		g.met(got)
	case 1:
		f.follow()
	case 2:
		if f.lot.Intn(4) == 0 {
			g.same("Collect", "", "", g.repo.Collect(), g.model.Collect())
		}
	}
}

// brokenExchanges is how many games are played.
const brokenExchanges = 80
