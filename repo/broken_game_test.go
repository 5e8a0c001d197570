package repo_test

import (
	"fmt"
	"slices"
	"testing"

	"gitlike/api"
)

// changer is what makes changes: a repository, or a model of it.
type changer interface {
	Commit(files []api.File, who api.Person, message string) (api.ID, error)
	Branch(name, at string) error
	Switch(name string) error
	Drop(name string) error
	Tag(name, at string, who api.Person, message string) (api.ID, error)
	Merge(name string, who api.Person, message string) (api.ID, error)
	Collect() error
}

// change is a call by lot.
func (g *game) change() (name string, call func(c changer) (api.ID, error)) {
	branch, tag, text, files, who, message := g.branch(), pick(g, tagNames), g.text(), g.files(), g.who(), g.message()
	switch g.lot.Intn(9) {
	case 0, 1:
		return "Commit", func(c changer) (api.ID, error) { return c.Commit(files, who, message) }
	case 2:
		return "Branch", func(c changer) (api.ID, error) { return nought, c.Branch(branch, text) }
	case 3:
		return "Switch", func(c changer) (api.ID, error) { return nought, c.Switch(branch) }
	case 4:
		return "Drop", func(c changer) (api.ID, error) { return nought, c.Drop(branch) }
	case 5:
		return "Tag", func(c changer) (api.ID, error) { return c.Tag(tag, text, who, message) }
	case 6, 7:
		return "Merge", func(c changer) (api.ID, error) { return c.Merge(text, who, message) }
	}
	return "Collect", func(c changer) (api.ID, error) { return nought, c.Collect() }
}

// refsState is all that a model tells of its refs.
func (m *model) refsState() string {
	to, _ := m.refs.Target("HEAD")
	s := fmt.Sprint(to, m.refs.List(""))
	for _, name := range m.names {
		l, err := m.refs.Log(name)
		s += fmt.Sprint(l, api.Tell(err))
	}
	return s
}

// refsState is what a model would tell, were its refs these.
func (g *game) refsState() string {
	name, err := g.repo.Head()
	done(g.t, "Head", err)
	s := fmt.Sprint("refs/heads/"+name, g.repo.Refs())
	for _, name := range g.model.names {
		l, err := g.repo.Reflog(name)
		s += fmt.Sprint(l, api.Tell(err))
	}
	return s
}

// breaks makes a call where the disk fails, and perhaps a crash comes. It is done then, or it is not.
func (g *game) breaks() {
	before := g.model.clone(g.t)
	name, call := g.change()
	g.disk.Fail(g.lot.Intn(pick(g, []int{5, 20, 100, 300})), pick(g, []int{1, 2, forever}))
	got, err := call(g.repo)
	g.disk.Fail(0, 0)
	want, wantErr := call(g.model)
	failed := api.Tell(err) == api.ErrDisk
	if !failed && (got != want || !sameError(err, wantErr)) || failed && got != nought {
		g.t.Fatalf("%s: %x, %v for %x, %v", name, got, err, want, wantErr)
	}
	how := "alone"
	if g.lot.Intn(2) == 0 {
		how = "crash"
		g.disk.Crash(uint(g.lot.Intn(40)), uint(g.lot.Intn(1000)))
		g.repo = open(g.t, g.disk)
	}
	state := g.refsState()
	made := state == g.model.refsState()
	if !made && (!failed || state != before.refsState()) {
		g.t.Fatalf("%s, %s: %v: refs are neither as before nor as behind it", name, how, err)
	}
	g.objectsAre(name, before, failed)
	if !made {
		g.model.refs, g.model.disk = before.refs, before.disk
	}
	if failed {
		tellsTheSame(g.t, name, g.repo, g.disk)
		g.counts[fmt.Sprint(name, " ", how, " ", made)]++
	}
	g.met(got)
}

// objectsAre wants all objects to be there that must be, and none that must not; the model has those that are.
func (g *game) objectsAre(name string, before *model, failed bool) {
	after := g.model
	there := objectsTold(g.t, g.repo)
	for _, id := range there {
		_, was := before.objects[id]
		_, is := after.objects[id]
		if !was && !is {
			g.t.Fatalf("%s: %x came from nowhere", name, id)
		}
		if was {
			after.objects[id] = before.objects[id]
		}
	}
	for id := range before.objects {
		if _, kept := after.objects[id]; kept && !slices.Contains(there, id) {
			g.t.Fatalf("%s: %x is lost", name, id)
		}
	}
	for id := range after.objects {
		if slices.Contains(there, id) {
			continue
		}
		if !failed {
			g.t.Fatalf("%s: %x is not there", name, id)
		}
		delete(after.objects, id)
	}
}

// TestBrokenByLot: 13.9 and P16, games on a disk that fails and crashes.
func TestBrokenByLot(t *testing.T) {
	const tables = 4
	var each [tables]map[string]int
	t.Run("tables", func(t *testing.T) {
		for i := range int64(tables) {
			each[i] = map[string]int{}
			t.Run(fmt.Sprint(i), func(t *testing.T) {
				t.Parallel()
				for seed := i * brokenGames / tables; seed < (i+1)*brokenGames/tables; seed++ {
					g := newGame(t, seed, each[i])
					g.begin()
					for range 40 {
						g.breaks()
						g.agree()
						done(t, "Check", g.repo.Check()) // all was there, so all is there
					}
				}
			})
		}
	})
	for _, name := range []string{"Commit", "Branch", "Switch", "Drop", "Tag", "Merge", "Collect"} {
		for _, how := range []string{"alone", "crash"} {
			for _, made := range []bool{false, true} {
				what, n := fmt.Sprint(name, " ", how, " ", made), 0
				for _, m := range each {
					n += m[what]
				}
				if n < 2 && (name != "Collect" || made) { // its refs are the same, before and behind it
					t.Errorf("%s: %d times", what, n)
				}
			}
		}
	}
}

// brokenGames is how many are played.
const brokenGames = 160
