package refs_test

import (
	"slices"
	"testing"

	"gitlike/api"
	"gitlike/refs"
)

// badNames are none.
var badNames = []string{"", "head", "refs", "refs/", "main", "refs/a.lock", "refs/a..b", "refs/é", "refs/a b", "HEAD/a"}

// chained is refs of which each leads to the next one: refs/a to refs/b, and so on.
var chained = []string{"refs/a", "refs/b", "refs/c", "refs/d", "refs/e", "refs/f", "refs/g", "refs/h", "refs/i", "refs/j", "refs/k"}

// TestReadNames: 7.3, names that are none.
func TestReadNames(t *testing.T) {
	r := mixed(t, roomy())
	for _, name := range badNames {
		reads(t, r, name, nought, api.ErrName)
		leads(t, r, name, "", api.ErrName)
	}
}

// TestRead: 7.3, refs that stand for ids, lead on, are not there.
func TestRead(t *testing.T) {
	d := roomy()
	r := open(t, d)
	link(t, r, "HEAD", "refs/heads/main")
	reads(t, r, "HEAD", nought, api.ErrNoRef)
	reads(t, r, "refs/heads/main", nought, api.ErrNoRef)
	leads(t, r, "HEAD", "refs/heads/main", api.OK)
	leads(t, r, "refs/heads/main", "", api.ErrNoRef)
	update(t, r, "", from("refs/heads/main", nought, id(1)))
	link(t, r, "refs/x", "HEAD")
	for _, name := range []string{"HEAD", "refs/heads/main", "refs/x"} {
		reads(t, r, name, id(1), api.OK)
	}
	leads(t, r, "refs/x", "HEAD", api.OK)
	leads(t, r, "refs/heads/main", "", api.ErrNoRef)
	leads(t, r, "refs/heads", "", api.ErrNoRef)
	reads(t, r, "refs/heads", nought, api.ErrNoRef)
	bothTell(t, "read", r, d)
}

// TestDepth: 7.3, refs that lead on eight times and nine times.
func TestDepth(t *testing.T) {
	d := roomy()
	r := open(t, d)
	for i := range 9 {
		link(t, r, chained[i], chained[i+1])
	}
	reads(t, r, "refs/a", nought, api.ErrLoop)
	reads(t, r, "refs/b", nought, api.ErrNoRef)
	reads(t, r, "refs/j", nought, api.ErrNoRef)
	update(t, r, "", from("refs/j", nought, id(1)))
	reads(t, r, "refs/a", nought, api.ErrLoop)
	for _, name := range chained[1:10] {
		reads(t, r, name, id(1), api.OK)
	}
	leads(t, r, "refs/a", "refs/b", api.OK)
	var want []api.Ref
	for _, name := range chained[1:10] {
		want = append(want, api.Ref{Name: name, ID: id(1)})
	}
	lists(t, r, "", want...)
	noLoop := r.Update([]api.Change{from("refs/b", id(1), id(2))}, ann, "")
	is(t, "Update of what leads on eight times", noLoop, api.OK)
	is(t, "Update of what leads on nine times", r.Update([]api.Change{from("refs/a", id(2), id(3))}, ann, ""), api.ErrLoop)
	link(t, r, "refs/j", "refs/k")
	reads(t, r, "refs/b", nought, api.ErrLoop)
	reads(t, r, "refs/c", nought, api.ErrNoRef)
	bothTell(t, "deep", r, d)
}

// TestRings: 7.3, refs that lead to each other.
func TestRings(t *testing.T) {
	for n := 2; n <= 10; n++ {
		d := roomy()
		r := open(t, d)
		for i := range n {
			link(t, r, chained[i], chained[(i+1)%n])
		}
		link(t, r, "HEAD", "refs/a")
		for i := range n {
			reads(t, r, chained[i], nought, api.ErrLoop)
			leads(t, r, chained[i], chained[(i+1)%n], api.OK)
			is(t, "Update in a ring", r.Update([]api.Change{from(chained[i], nought, id(1))}, ann, ""), api.ErrLoop)
			logs(t, r, chained[i])
		}
		reads(t, r, "HEAD", nought, api.ErrLoop)
		lists(t, r, "")
		bothTell(t, "a ring", r, d)
	}
}

// TestList: 7.3, prefixes that end within a part, behind one, and are no names.
func TestList(t *testing.T) {
	d := roomy()
	r := open(t, d)
	update(t, r, "",
		from("refs/tags/v", nought, id(4)), from("refs/heads/main", nought, id(1)), from("refs/heads/maine", nought, id(2)), from("refs/heads-of/x", nought, id(3)), from("refs/heads/side/a", nought, id(5)))
	link(t, r, "HEAD", "refs/heads/main")
	link(t, r, "refs/heads/alias", "HEAD")
	link(t, r, "refs/heads/nowhere", "refs/no")
	link(t, r, "refs/heads/ring", "refs/heads/ring2")
	link(t, r, "refs/heads/ring2", "refs/heads/ring")
	head := api.Ref{Name: "HEAD", ID: id(1)}
	of := api.Ref{Name: "refs/heads-of/x", ID: id(3)}
	alias := api.Ref{Name: "refs/heads/alias", ID: id(1)}
	main := api.Ref{Name: "refs/heads/main", ID: id(1)}
	maine := api.Ref{Name: "refs/heads/maine", ID: id(2)}
	side := api.Ref{Name: "refs/heads/side/a", ID: id(5)}
	tag := api.Ref{Name: "refs/tags/v", ID: id(4)}
	lists(t, r, "", head, of, alias, main, maine, side, tag)
	lists(t, r, "H", head)
	lists(t, r, "HEAD", head)
	lists(t, r, "HEAD/")
	lists(t, r, "r", of, alias, main, maine, side, tag)
	lists(t, r, "refs/", of, alias, main, maine, side, tag)
	lists(t, r, "refs/he", of, alias, main, maine, side)
	lists(t, r, "refs/heads", of, alias, main, maine, side)
	lists(t, r, "refs/heads/", alias, main, maine, side)
	lists(t, r, "refs/heads/m", main, maine)
	lists(t, r, "refs/heads/main", main, maine)
	lists(t, r, "refs/heads/maine", maine)
	lists(t, r, "refs/heads/mainer")
	lists(t, r, "refs/heads/main/")
	lists(t, r, "refs/heads/nowhere")
	lists(t, r, "refs/heads/ring")
	lists(t, r, "refs/heads/side/", side)
	lists(t, r, "eads")
	lists(t, r, "\xff")
	bothTell(t, "listed", r, d)
}

// TestAllNames: all refs, those too that lead to nothing, sorted; the answer is new.
func TestAllNames(t *testing.T) {
	d := roomy()
	r := open(t, d)
	if l := r.Names(); len(l) > 0 {
		t.Errorf("%q", l)
	}
	link(t, r, "HEAD", "refs/heads/main")
	link(t, r, "refs/heads/b", "refs/heads/a/c")
	update(t, r, "", from("refs/tags/v", nought, id(1)), from("refs/heads/b", nought, id(2)), from("refs/x", nought, id(3)))
	update(t, r, "", from("refs/heads/a/c", id(2), nought), from("refs/x", id(3), nought))
	want := []string{"HEAD", "refs/heads/b", "refs/tags/v"}
	for _, r := range []*refs.Refs{r, open(t, d)} {
		l := r.Names()
		if !slices.Equal(l, want) {
			t.Errorf("%q", l)
		}
		l[0] = "scribble"
		if l := r.Names(); !slices.Equal(l, want) {
			t.Errorf("%q", l)
		}
	}
}
