package repo_test

import (
	"fmt"
	"math/rand"
	"slices"
	"strings"
	"testing"

	"gitlike/api"
	"gitlike/object"
	"gitlike/refs"
	"gitlike/repo"
	"gitlike/store"
)

// games is how many are played.
const games = 200

// game is a repository and a model of it, of which the same calls are made by lot.
type game struct {
	t      *testing.T
	lot    *rand.Rand
	disk   *api.Disk
	repo   *repo.Repo
	model  *model
	made   []api.ID          // ids that were met
	kept   map[api.ID]string // what Files and Log told of a commit when it was made
	counts map[string]int
	calm   bool // nothing is laid that no call of a repository makes
}

// branchNames and tagNames are those that are tried; some are none, some clash.
var (
	branchNames = []string{"main", "a", "b", "c", "a/d", "bad..name", ""}
	tagNames    = []string{"v", "a", "w/1", "w", "x+y", " "}
)

// refNames is all names that refs of a game may have.
func refNames() []string {
	l := []string{"HEAD", "refs/x/0", "refs/x/1", "refs/x/2"}
	for _, n := range branchNames {
		l = append(l, "refs/heads/"+n)
	}
	for _, n := range tagNames {
		l = append(l, "refs/tags/"+n)
	}
	return slices.DeleteFunc(l, func(n string) bool { return !refs.IsName(n) })
}

func newGame(t *testing.T, seed int64, counts map[string]int) *game {
	t.Helper()
	d, r := create(t)
	return &game{t: t, lot: rand.New(rand.NewSource(seed)), disk: d, repo: r, model: newModel(t, refNames()), made: []api.ID{{1}}, kept: map[api.ID]string{}, counts: counts}
}

func pick[T any](g *game, l []T) T { return l[g.lot.Intn(len(l))] }

// branch is the name of one, mostly of those that are often there.
func (g *game) branch() string {
	if g.lot.Intn(4) > 0 {
		return pick(g, branchNames[:3])
	}
	return pick(g, branchNames)
}

// text is one that is meant to resolve to something.
func (g *game) text() string {
	switch g.lot.Intn(10) {
	case 0:
		return "HEAD"
	case 1, 2:
		return hex(pick(g, g.made))
	case 3:
		return pick(g, g.model.names)
	case 4:
		return pick(g, tagNames)
	case 5:
		return pick(g, []string{"none", "", "refs/heads/none", "heads/a"})
	}
	return g.branch()
}

// lines is a text, of which a line or two are changed now and then.
func (g *game) lines() string {
	l := []string{"1", "2", "3", "4", "5", "6", "7", "8", "9", "10"}
	for range g.lot.Intn(3) {
		l[3*g.lot.Intn(4)] = pick(g, []string{"x", "y"})
	}
	return strings.Join(l, "\n") + "\n"
}

// paths is where files are.
var paths = []string{"f", "g/h", "g/i", "j"}

// files is those of HEAD with one more, or less, or another; or others; now and then some that cannot be.
func (g *game) files() []api.File {
	l, _ := g.model.Files("HEAD")
	for range 1 + 3*g.lot.Intn(2) {
		path := pick(g, paths)
		l = slices.DeleteFunc(l, func(f api.File) bool { return f.Path == path })
		if g.lot.Intn(4) > 0 {
			f := api.File{Path: path, Mode: api.FileMode, Data: []byte(g.lines())}
			if g.lot.Intn(8) == 0 {
				f.Mode = pick(g, []api.Mode{api.ExecMode, api.LinkMode})
			}
			l = append(l, f)
		}
	}
	switch g.lot.Intn(30) {
	case 0:
		l = append(l, api.File{Path: "g", Mode: api.FileMode}, api.File{Path: "g/h/i", Mode: api.FileMode})
	case 1:
		l = append(l, api.File{Path: "k", Mode: api.DirMode})
	}
	g.lot.Shuffle(len(l), func(i, k int) { l[i], l[k] = l[k], l[i] })
	return l
}

func (g *game) who() api.Person {
	p := api.Person{Name: pick(g, []string{"Ann", "Bob"}), Time: int64(g.lot.Intn(6)), Zone: g.lot.Intn(3)}
	if g.lot.Intn(30) == 0 {
		p.Mail = "<"
	}
	return p
}

func (g *game) message() string {
	return pick(g, []string{"", "m", "two\nlines", strings.Repeat("long ", 30), "m", "m", "m"})
}

// same wants two answers of a call to be the same, and counts them.
func (g *game) same(call string, got, want any, err, wantErr error) {
	g.t.Helper()
	if !sameError(err, wantErr) || fmt.Sprint(got) != fmt.Sprint(want) {
		g.t.Fatalf("%s: %v, %v for %v, %v", call, got, err, want, wantErr)
	}
	g.counts[fmt.Sprintf("%s %d", strings.Fields(call)[0], api.Tell(err))]++
}

func (g *game) met(id api.ID) {
	if id != nought {
		g.made = append(g.made, id)
	}
}

// keep looks at a commit that was made.
func (g *game) keep(id api.ID) {
	if id != nought {
		g.kept[id] = g.seen(id)
	}
}

// seen is all that is told of a commit.
func (g *game) seen(id api.ID) string {
	g.t.Helper()
	files, err := g.repo.Files(hex(id))
	log, logErr := g.repo.Log(hex(id))
	return fmt.Sprint(listed(files), log, api.Tell(err), api.Tell(logErr))
}

// allKept wants commits that refs or logs have to be as they were when they were made.
func (g *game) allKept() {
	g.t.Helper()
	if g.model.Check() != nil {
		return // then it is not promised
	}
	for _, name := range g.model.names {
		l, _ := g.repo.Reflog(name)
		for _, e := range l {
			if was, there := g.kept[e.New]; there && g.seen(e.New) != was {
				g.t.Fatalf("%x was %s, and is %s", e.New, was, g.seen(e.New))
			}
		}
	}
}

// begin makes branches beside each other.
func (g *game) begin() {
	if g.lot.Intn(5) == 0 {
		return
	}
	for _, name := range []string{"a", "b", "main"} {
		files := g.files()
		got, err := g.repo.Commit(files, ann, "begin")
		want, wantErr := g.model.Commit(files, ann, "begin")
		g.same("Commit", got, want, err, wantErr)
		g.met(got)
		g.same("Branch "+name, "", "", g.repo.Branch(name, "HEAD"), g.model.Branch(name, "HEAD"))
		g.same("Switch "+name, "", "", g.repo.Switch(name), g.model.Switch(name))
	}
}

// step makes a call of both.
func (g *game) step() {
	switch g.lot.Intn(16) {
	case 0, 1, 2, 3:
		files, who, message := g.files(), g.who(), g.message()
		if g.lot.Intn(6) == 0 {
			files, _ = g.model.Files("HEAD")
		}
		got, err := g.repo.Commit(files, who, message)
		want, wantErr := g.model.Commit(files, who, message)
		g.same("Commit", got, want, err, wantErr)
		g.met(got)
		g.keep(got)
	case 4:
		name, at := g.branch(), g.text()
		g.same("Branch "+name+" at "+at, "", "", g.repo.Branch(name, at), g.model.Branch(name, at))
	case 5, 6:
		name := g.branch()
		g.same("Switch "+name, "", "", g.repo.Switch(name), g.model.Switch(name))
	case 7:
		name := g.branch()
		g.same("Drop "+name, "", "", g.repo.Drop(name), g.model.Drop(name))
	case 8:
		name, at, who, message := pick(g, tagNames), g.text(), g.who(), g.message()
		got, err := g.repo.Tag(name, at, who, message)
		want, wantErr := g.model.Tag(name, at, who, message)
		g.same("Tag "+name+" at "+at, got, want, err, wantErr)
		g.met(got)
	case 9, 10, 11:
		g.merge(g.text())
	case 12:
		name := g.text()
		got, err := g.repo.Files(name)
		want, wantErr := g.model.Files(name)
		g.same("Files "+name, listed(got), listed(want), err, wantErr)
	case 13:
		name := g.text()
		got, err := g.repo.Log(name)
		want, wantErr := g.model.Log(name)
		g.same("Log "+name, got, want, err, wantErr)
	case 14:
		g.same("Check", "", "", g.repo.Check(), g.model.Check())
		if g.lot.Intn(3) == 0 {
			g.same("Collect", "", "", g.repo.Collect(), g.model.Collect())
		}
	case 15:
		if g.lot.Intn(4) == 0 && !g.calm {
			g.lay()
		}
		g.repo = open(g.t, g.disk)
	}
}

// merge merges something; and, if it is a branch, the other way about on a copy of the disk.
func (g *game) merge(name string) {
	who, message := g.who(), g.message()
	copied := g.disk.Copy()
	was, _ := g.repo.Head()
	before := len(g.repo.Refs())
	got, err := g.repo.Merge(name, who, message)
	want, wantErr := g.model.Merge(name, who, message)
	kind := "Merge"
	if err == nil && !g.isMerge(got) {
		kind = "forward"
	}
	g.same(kind+" "+name, got, want, err, wantErr)
	g.met(got)
	g.keep(got)
	if err != nil && api.Tell(err) != api.ErrConflict || kind == "forward" || before == 0 {
		return
	}
	other := open(g.t, copied)
	if other.Switch(name) != nil {
		return
	}
	_, otherErr := other.Merge(was, who, message)
	if !sameError(err, otherErr) {
		g.t.Fatalf("Merge of %s: %v, the other way about %v", name, err, otherErr)
	}
	if err == nil {
		l, _ := g.repo.Files("HEAD")
		m, _ := other.Files("HEAD")
		if listed(l) != listed(m) {
			g.t.Fatalf("Merge of %s: %s, the other way about %s", name, listed(l), listed(m))
		}
	}
	g.counts["about "+fmt.Sprint(int(api.Tell(err)))]++
}

// isMerge tells whether HEAD's log has a merge last, not a way forward.
func (g *game) isMerge(id api.ID) bool {
	l, err := g.repo.Reflog("HEAD")
	done(g.t, "Reflog", err)
	return l[len(l)-1].New == id && l[len(l)-1].Text == "merge"
}

// lay lays objects and refs that no call of a repository makes.
func (g *game) lay() {
	s, err := store.Open(g.disk)
	done(g.t, "store.Open", err)
	for range 1 + g.lot.Intn(3) {
		o := g.odd()
		id, err := s.Put(o)
		done(g.t, "Put", err)
		g.model.put(o)
		g.met(id)
	}
	r, err := refs.Open(g.disk)
	done(g.t, "refs.Open", err)
	name := pick(g, g.model.names)
	if target := pick(g, g.model.names); g.lot.Intn(3) == 0 && name != "HEAD" {
		g.same("Link "+name+" to "+target, "", "", r.Link(name, target), g.model.refs.Link(name, target))
		return
	}
	was, _ := r.Read(name)
	now := pick(g, append(g.made, nought))
	g.same("Update "+name, "", "", r.Update([]api.Change{{Name: name, Old: was, New: now}}, ann, "laid"), g.model.update(name, was, now, ann, "laid"))
}

// odd is an object that is right, or nearly so.
func (g *game) odd() api.Object {
	id := func() api.ID { return pick(g, g.made) }
	switch g.lot.Intn(8) {
	case 0:
		return api.Object{Kind: api.Kind(1 + g.lot.Intn(4)), Data: []byte("noise")}
	case 1:
		return tagObject(g.t, "t", id(), api.Kind(1+g.lot.Intn(4)))
	case 2, 3:
		return tree(g.t, api.TreeEntry{Mode: pick(g, []api.Mode{api.FileMode, api.DirMode, api.LinkMode}), Name: "f", ID: id()})
	case 4:
		return tree(g.t)
	}
	info := api.CommitInfo{Tree: id(), Parents: []api.ID{id()}, Author: at(3), Committer: at(int64(g.lot.Intn(6)))}
	if c, err := object.ReadCommit(g.model.objects[info.Parents[0]].Data); err == nil && g.lot.Intn(4) > 0 {
		info.Tree = c.Tree
	}
	if other := id(); g.lot.Intn(2) == 0 && other != info.Parents[0] {
		info.Parents = append(info.Parents, other)
	}
	return commitWith(g.t, info)
}

// agree wants both to tell the same.
func (g *game) agree() {
	g.t.Helper()
	if got, want := fmt.Sprint(g.repo.Refs()), fmt.Sprint(g.model.refs.List("")); got != want {
		g.t.Fatalf("Refs: %s for %s", got, want)
	}
	to, err := g.model.refs.Target("HEAD")
	if got, e := g.repo.Head(); got != strings.TrimPrefix(to, "refs/heads/") || !sameError(err, e) {
		g.t.Fatalf("Head: %s, %v for %s, %v", got, e, to, err)
	}
	for _, name := range g.model.names {
		got, err := g.repo.Reflog(name)
		want, wantErr := g.model.refs.Log(name)
		if fmt.Sprint(got) != fmt.Sprint(want) || !sameError(err, wantErr) {
			g.t.Fatalf("Reflog of %s: %v, %v for %v, %v", name, got, err, want, wantErr)
		}
	}
	if got, want := objectsTold(g.t, g.repo), g.model.ids(); !slices.Equal(got, want) {
		g.t.Fatalf("Objects: %x for %x", got, want)
	}
}

// play plays games, and counts what was answered.
func play(t *testing.T, first, behind int64, counts map[string]int) {
	for seed := first; seed < behind; seed++ {
		g := newGame(t, seed, counts)
		g.begin()
		for range 60 {
			g.step()
			g.agree()
		}
		g.allKept()
	}
}

// TestByLot: 13.1 to 13.8 and P16, calls by lot, of a repository and of a model of it.
func TestByLot(t *testing.T) {
	const tables = 4
	var each [tables]map[string]int
	t.Run("tables", func(t *testing.T) {
		for i := range int64(tables) {
			each[i] = map[string]int{}
			t.Run(fmt.Sprint(i), func(t *testing.T) {
				t.Parallel()
				play(t, i*games/tables, (i+1)*games/tables, each[i])
			})
		}
	})
	counts := map[string]int{}
	for _, m := range each {
		for what, n := range m {
			counts[what] += n
		}
	}
	for what, least := range map[string]int{
		"Commit 0": 500, "Commit 123": 50, "Commit 125": 20, "Commit 71": 10, "Commit 70": 10, "Commit 50": 5, "Commit 22": 5,
		"Branch 0": 100, "Branch 60": 50, "Branch 61": 50, "Branch 121": 50, "Branch 63": 10, "Branch 50": 10, "Branch 22": 2,
		"Switch 0": 100, "Switch 60": 50, "Switch 61": 50, "Drop 0": 20, "Drop 60": 20, "Drop 61": 20, "Drop 121": 20,
		"Tag 0": 50, "Tag 60": 20, "Tag 61": 20, "Tag 121": 20, "Tag 23": 10, "Tag 50": 5, "Tag 22": 2, "Tag 63": 5,
		"Merge 0": 50, "forward 0": 30, "Merge 123": 50, "Merge 122": 50, "Merge 125": 10, "Merge 61": 50, "Merge 50": 10, "Merge 22": 10,
		"about 0": 20, "about 122": 10, "Files 0": 50, "Files 61": 20, "Files 50": 10, "Files 22": 2,
		"Log 0": 50, "Log 61": 20, "Log 50": 10, "Log 22": 2, "Check 0": 50, "Check 50": 20, "Collect 0": 20, "Collect 50": 5, "Link 0": 20, "Update 0": 20,
	} {
		if counts[what] < least {
			t.Errorf("%s: %d times, not %d", what, counts[what], least)
		}
	}
}
