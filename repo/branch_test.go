package repo_test

import (
	"strings"
	"testing"

	"gitlike/api"
	"gitlike/object"
)

// TestBranch: 13.5, what is made, by whom, with what text.
func TestBranch(t *testing.T) {
	d, r := create(t)
	a := commit(t, r, "f", "1")
	b := commit(t, r, "f", "2")
	v := tag(t, r, "v", hex(a))
	for name, at := range map[string]string{"x": "HEAD", "y/z": "main", "old": hex(a), "of-tag": "v", "of-tag-id": hex(v), "again": "refs/tags/v", strings.Repeat("n", 49): "main"} {
		was := objectsTold(t, r)
		done(t, "Branch of "+name, r.Branch(name, at))
		want := b
		if at != "HEAD" && at != "main" {
			want = a
		}
		stands(t, r, "refs/heads/"+name, want)
		reflog(t, r, "refs/heads/"+name, 1, api.LogEntry{New: want, Who: nobody, Text: "branch"})
		hasObjects(t, name, r, was...)
		logs(t, r, "HEAD", b, a)
		if head, err := r.Head(); head != "main" || err != nil {
			t.Errorf("Head: %q, %v", head, err)
		}
	}
	reflog(t, r, "HEAD", 2, api.LogEntry{Old: a, New: b, Who: ann, Text: "commit: a message"})
	tellsTheSame(t, "branches", r, d)
}

// TestBranchRefused: 13.5, its errors and their order.
func TestBranchRefused(t *testing.T) {
	d, r := create(t)
	is(t, "Branch at nothing", r.Branch("x", "HEAD"), api.ErrNoRef)
	a := commit(t, r, "f", "1")
	branch(t, r, "x", "HEAD")
	layLink(t, d, "refs/heads/leads", "refs/heads/x")
	layLink(t, d, "refs/heads/to-none", "refs/heads/none")
	layLink(t, d, "refs/heads/loop", "refs/heads/pool")
	layLink(t, d, "refs/heads/pool", "refs/heads/loop")
	layRef(t, d, "refs/heads/broken", api.ID{7})
	file := lay(t, d, blob("x"))
	r = open(t, d)
	for _, c := range []struct {
		name, at string
		want     api.Errno
	}{
		{"", "HEAD", api.ErrName}, {"a..b", "HEAD", api.ErrName}, {"a b", "none", api.ErrName}, {"/x", "HEAD", api.ErrName},
		{"x/", "HEAD", api.ErrName}, {"x.lock", hex(file), api.ErrName}, {strings.Repeat("n", 50), "HEAD", api.ErrName}, {"x\n", "HEAD", api.ErrName},
		{"y", "none", api.ErrNoRef}, {"x", "none", api.ErrNoRef}, {"x", "", api.ErrNoRef},
		{"x", hex(api.ID{1}), api.ErrMissing}, {"x", hex(file), api.ErrCommit}, {"y", "broken", api.ErrMissing},
		{"x", "HEAD", api.ErrBranch}, {"main", "HEAD", api.ErrBranch}, {"leads", "HEAD", api.ErrBranch}, {"broken", "HEAD", api.ErrBranch},
		{"x/y", "HEAD", api.ErrClash}, {"main/y", hex(a), api.ErrClash}, {"loop", "HEAD", api.ErrLoop},
	} {
		unchanged(t, c.name, r, d, func() { is(t, "Branch "+c.name+" at "+c.at, r.Branch(c.name, c.at), c.want) })
	}
	// One that leads to a branch that is not there makes that one.
	branch(t, r, "to-none", "HEAD")
	stands(t, r, "refs/heads/none", a)
	tellsTheSame(t, "to-none", r, d)
}

// TestSwitch: 13.5, to and fro, and to what is not there.
func TestSwitch(t *testing.T) {
	d, r := create(t)
	is(t, "Switch to a branch without an id", r.Switch("main"), api.ErrNoRef)
	a := commit(t, r, "f", "1")
	branch(t, r, "x", "HEAD")
	branch(t, r, "y/z", "HEAD")
	tag(t, r, "v", "HEAD")
	was := objectsTold(t, r)
	for _, name := range []string{"x", "main", "main", "y/z", "x"} {
		done(t, "Switch", r.Switch(name))
		if head, err := r.Head(); head != name || err != nil {
			t.Errorf("Head: %q, %v", head, err)
		}
		stands(t, r, "HEAD", a)
		reflog(t, r, "HEAD", 1, api.LogEntry{New: a, Who: ann, Text: "commit: a message"}) // its log stays, and has nothing of this
		hasObjects(t, "Switch", r, was...)
		tellsTheSame(t, "Switch", r, d)
	}
	b := commit(t, r, "f", "2")
	stands(t, r, "refs/heads/x", b)
	stands(t, r, "refs/heads/main", a)
	toSwitch(t, r, "main")
	shows(t, r, "HEAD", "f", "1")
	layRef(t, d, "refs/heads/broken", api.ID{7})
	layLink(t, d, "refs/heads/to-none", "refs/heads/none")
	layLink(t, d, "refs/heads/loop", "refs/heads/pool")
	layLink(t, d, "refs/heads/pool", "refs/heads/loop")
	r = open(t, d)
	for name, want := range map[string]api.Errno{
		"": api.ErrName, "a..b": api.ErrName, "x/": api.ErrName, strings.Repeat("n", 50): api.ErrName,
		"none": api.ErrNoRef, "v": api.ErrNoRef, "y": api.ErrNoRef, "refs/heads/x": api.ErrNoRef, "HEAD": api.ErrNoRef,
		hex(a): api.ErrNoRef, "to-none": api.ErrNoRef, "loop": api.ErrNoRef,
	} {
		unchanged(t, name, r, d, func() { is(t, "Switch to "+name, r.Switch(name), want) })
	}
	toSwitch(t, r, "broken") // it has an id, whatever that is of
	stands(t, r, "HEAD", api.ID{7})
	_, err := r.Files("HEAD")
	is(t, "Files of what is missing", err, api.ErrMissing)
}

// TestDrop: 13.5, dropped branches, those that are in use, those that are not there.
func TestDrop(t *testing.T) {
	d, r := create(t)
	is(t, "Drop of the branch to which HEAD leads, and that has no id", r.Drop("main"), api.ErrNoRef)
	a := commit(t, r, "f", "1")
	branch(t, r, "x", "HEAD")
	branch(t, r, "y/z", "HEAD")
	tag(t, r, "v", "HEAD")
	toSwitch(t, r, "x")
	b := commit(t, r, "f", "2")
	was := objectsTold(t, r)
	for name, want := range map[string]api.Errno{
		"": api.ErrName, "a..b": api.ErrName, "none": api.ErrNoRef, "v": api.ErrNoRef, "y": api.ErrNoRef, "HEAD": api.ErrNoRef,
		"refs/heads/main": api.ErrNoRef, "x": api.ErrBranch,
	} {
		unchanged(t, name, r, d, func() { is(t, "Drop of "+name, r.Drop(name), want) })
	}
	done(t, "Drop", r.Drop("main"))
	stands(t, r, "refs/heads/main", nought)
	_, err := r.Reflog("refs/heads/main")
	is(t, "its log", err, api.ErrNoRef)
	reflog(t, r, "HEAD", 2, api.LogEntry{Old: a, New: b, Who: ann, Text: "commit: a message"})
	is(t, "Drop again", r.Drop("main"), api.ErrNoRef)
	hasObjects(t, "Drop", r, was...)
	tellsTheSame(t, "Drop", r, d)
	shows(t, r, hex(a), "f", "1")
	branch(t, r, "main", "HEAD") // its name is free again
	reflog(t, r, "refs/heads/main", 1, api.LogEntry{New: b, Who: nobody, Text: "branch"})
	toSwitch(t, r, "main")
	done(t, "Drop of what was in use", r.Drop("x"))
	done(t, "Drop of one below", r.Drop("y/z"))
	branch(t, r, "y", "HEAD")
	tellsTheSame(t, "Drop", r, d)
}

// TestDropLinked: 13.5 and 7.4, branches that lead to others: the last one is removed, and the text stands in the log of the first.
func TestDropLinked(t *testing.T) {
	d, r := create(t)
	a := commit(t, r, "f", "1")
	branch(t, r, "x", "HEAD")
	layLink(t, d, "refs/heads/leads", "refs/heads/x")
	layLink(t, d, "refs/heads/loop", "refs/heads/pool")
	layLink(t, d, "refs/heads/pool", "refs/heads/loop")
	r = open(t, d)
	is(t, "Drop of a loop", r.Drop("loop"), api.ErrNoRef)
	toSwitch(t, r, "leads")
	is(t, "Drop of the one to which HEAD leads", r.Drop("leads"), api.ErrBranch)
	toSwitch(t, r, "main")
	done(t, "Drop", r.Drop("leads"))
	stands(t, r, "refs/heads/x", nought)
	stands(t, r, "refs/heads/leads", nought)
	reflog(t, r, "refs/heads/leads", 1, api.LogEntry{Old: a, Who: nobody, Text: "drop"})
	stands(t, r, "HEAD", a)
}

// TestTag: 13.5, what is stored and made, by whom, with what text.
func TestTag(t *testing.T) {
	d, r := create(t)
	a := commit(t, r, "f", "1")
	b := commit(t, r, "f", "2")
	all := objectsTold(t, r)
	for _, c := range []struct {
		name, at, message string
		want              api.ID
	}{
		{"v", "HEAD", "a tag\n", b}, {"w/1", hex(a), "", a}, {"of-tag", "w/1", "more\n\nlines", a}, {"main", "main", "x", b}, {strings.Repeat("n", 50), "v", "", b},
	} {
		id, err := r.Tag(c.name, c.at, bob, c.message)
		done(t, "Tag "+c.name, err)
		info, err := object.ReadTag(get(t, r, id).Data)
		if want := (api.TagInfo{Target: c.want, Kind: api.Commit, Name: c.name, Tagger: bob, Message: c.message}); err != nil || info != want {
			t.Errorf("Tag %s: %v, %v", c.name, info, err)
		}
		stands(t, r, "refs/tags/"+c.name, id)
		reflog(t, r, "refs/tags/"+c.name, 1, api.LogEntry{New: id, Who: bob, Text: "tag"})
		all = append(all, id)
		hasObjects(t, "Tag", r, all...)
		stands(t, r, "HEAD", b)
		logs(t, r, "refs/tags/"+c.name, map[api.ID][]api.ID{a: {a}, b: {b, a}}[c.want]...)
	}
	tellsTheSame(t, "Tag", r, d)
}

// TestTagRefused: 13.5, its errors and their order.
func TestTagRefused(t *testing.T) {
	d, r := create(t)
	_, err := r.Tag("v", "HEAD", ann, "")
	is(t, "Tag of nothing", err, api.ErrNoRef)
	commit(t, r, "f", "1")
	tag(t, r, "v", "HEAD")
	layLink(t, d, "refs/tags/loop", "refs/tags/pool")
	layLink(t, d, "refs/tags/pool", "refs/tags/loop")
	file := lay(t, d, blob("x"))
	r = open(t, d)
	ill, long := api.Person{Name: "\n"}, strings.Repeat("x", api.MaxText+1)
	for _, c := range []struct {
		name, at string
		who      api.Person
		message  string
		want     api.Errno
	}{
		{"", "HEAD", ann, "", api.ErrName}, {"a..b", "none", ill, long, api.ErrName}, {strings.Repeat("n", 51), "HEAD", ann, "", api.ErrName}, {"v:w", "HEAD", ann, "", api.ErrName},
		{"w", "none", ill, long, api.ErrNoRef}, {"v", "none", ann, "", api.ErrNoRef}, {"w", hex(api.ID{1}), ill, "", api.ErrMissing}, {"v", hex(file), ill, "", api.ErrCommit},
		{"v", "HEAD", ill, long, api.ErrBranch}, {"v", "v", ann, "", api.ErrBranch},
		{"w+1", "HEAD", ann, "", api.ErrTag}, {"w", "HEAD", ill, "", api.ErrTag}, {"w", "HEAD", ann, long, api.ErrTag}, {"w", "HEAD", ann, "\x00", api.ErrTag},
		{"v/+", "HEAD", ann, "", api.ErrTag}, {"loop", "HEAD", ill, "", api.ErrTag},
	} {
		unchanged(t, c.name, r, d, func() {
			id, err := r.Tag(c.name, c.at, c.who, c.message)
			is(t, "Tag "+c.name+" at "+c.at, err, c.want)
			if id != nought {
				t.Errorf("%x", id)
			}
		})
	}
	// The ref cannot be made: what was stored stays.
	was, all := refsTold(t, r), objectsTold(t, r)
	for name, want := range map[string]api.Errno{"v/w": api.ErrClash, "loop": api.ErrLoop} {
		id, err := r.Tag(name, "HEAD", ann, "")
		is(t, "Tag "+name, err, want)
		if now := objectsTold(t, r); id != nought || len(now) != len(all)+1 || refsTold(t, r) != was {
			t.Errorf("Tag %s: %x, %d objects behind %d, %s", name, id, len(now), len(all), refsTold(t, r))
		}
		all = objectsTold(t, r)
		tellsTheSame(t, name, r, d)
	}
}
