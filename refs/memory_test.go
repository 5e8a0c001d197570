package refs_test

import (
	"slices"
	"testing"

	"gitlike/api"
)

// TestMemory scribbles over all that was handed in, and over each answer.
func TestMemory(t *testing.T) {
	d := roomy()
	r := open(t, d)
	link(t, r, "HEAD", "refs/a")
	spare := from("refs/spare", id(7), id(8))
	var old api.ID
	for i := range byte(40) {
		l := []api.Change{from("HEAD", old, id(i+1)), spare, spare, spare}
		was := slices.Clone(l)
		if i%5 == 4 {
			d.Fail(0, forever)
			is(t, "Update", r.Update(l[:1], ann, "text"), api.ErrDisk)
			d.Fail(0, 0)
		}
		is(t, "Update", r.Update(l[:1], ann, "text"), api.OK)
		if !slices.Equal(l, was) {
			t.Errorf("what was handed in is changed: %v", l)
		}
		clear(l)
		old = id(i + 1)
		want := told(r)
		for _, name := range []string{"HEAD", "refs/a"} {
			log, _ := r.Log(name)
			log = append(log, entered(id(1), id(2), "behind"))
			clear(log[:cap(log)])
		}
		refs := append(r.List(""), api.Ref{Name: "behind"})
		clear(refs[:cap(refs)])
		if told(r) != want {
			t.Fatalf("behind %d updates: what was answered is kept", i+1)
		}
	}
	bothTell(t, "scribbled over", r, d)
	expire(t, r, "HEAD", 2)
	log, _ := r.Log("HEAD")
	clear(log[:cap(log)])
	update(t, r, "more", from("HEAD", old, id(99)))
	logs(t, r, "HEAD", entered(id(38), id(39), "text"), entered(id(39), id(40), "text"), entered(id(40), id(99), "more"))
	if log, _ := r.Log("refs/a"); len(log) != 41 {
		t.Errorf("%d entries", len(log))
	}
}

// TestTwoAnswers: two answers share no memory.
func TestTwoAnswers(t *testing.T) {
	r := mixed(t, roomy())
	one, _ := r.Log("HEAD")
	two, _ := r.Log("HEAD")
	same, _ := r.Log("refs/heads/main")
	clear(one)
	if two[0] != entered(nought, id(1), "first") || same[0] != two[0] {
		t.Errorf("%v, %v", two, same)
	}
	l, m := r.List(""), r.List("")
	clear(l)
	if m[0].Name != "HEAD" {
		t.Errorf("%v", m)
	}
}
