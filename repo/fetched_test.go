package repo_test

import (
	"slices"
	"strings"
	"testing"

	"gitlike/api"
	"gitlike/pack"
	"gitlike/repo"
)

// fetchRefused wants Fetched to answer that error, and no ref and no log to change.
func fetchRefused(t *testing.T, what string, r *repo.Repo, d *api.Disk, remote string, offer, pack []byte, who api.Person, want api.Errno) {
	t.Helper()
	was := refsTold(t, r)
	is(t, what, r.Fetched(remote, offer, pack, who), want)
	if now := refsTold(t, r); now != was {
		t.Errorf("%s: it told\n%s, and now\n%s", what, was, now)
	}
	tellsTheSame(t, what, r, d)
}

// nothingAdded wants Fetched to answer that error, and nothing at all to change.
func nothingAdded(t *testing.T, what string, r *repo.Repo, d *api.Disk, remote string, offer, pack []byte, who api.Person, want api.Errno) {
	t.Helper()
	unchanged(t, what, r, d, func() { fetchRefused(t, what, r, d, remote, offer, pack, who, want) })
}

// sentAll is an offer of a repository, and a pack of all that is offered.
func sentAll(t *testing.T, r *repo.Repo) (offer, pack []byte) {
	t.Helper()
	_, fresh := create(t)
	offer = offerOf(t, r)
	want, err := fresh.Wants(offer)
	pack, err = r.Upload(bytesOf(t, "Wants", want, err))
	return offer, bytesOf(t, "Upload", pack, err)
}

// TestFetched: 14.4, a first fetch: branches are those of the remote, tags are tags; who and what the logs have; nothing else is there.
func TestFetched(t *testing.T) {
	_, server := sender(t)
	for _, remote := range []string{"o", "far/away", "x.y-z"} {
		d, r := create(t)
		offer, pack := sentAll(t, server)
		done(t, "Fetched", r.Fetched(remote, offer, pack, bob))
		front := "refs/remotes/" + remote + "/"
		want := []api.Ref{
			ref(front+"ahead", refID(t, server, "refs/heads/ahead")),
			ref(front+"main", refID(t, server, "refs/heads/main")),
			ref(front+"side", refID(t, server, "refs/heads/side")),
			ref("refs/tags/v", refID(t, server, "refs/tags/v")),
		}
		if got := r.Refs(); !slices.Equal(got, want) {
			t.Errorf("%v for %v", got, want)
		}
		for _, x := range want {
			reflog(t, r, x.Name, 1, api.LogEntry{New: x.ID, Who: bob, Text: "fetch"})
		}
		reflog(t, r, "HEAD", 0, api.LogEntry{})
		if name, err := r.Head(); name != "main" || err != nil {
			t.Errorf("Head: %q, %v", name, err)
		}
		hasObjects(t, "what was sent", r, packed(t, pack, nil)...)
		is(t, "Check", r.Check(), api.OK)
		tellsTheSame(t, "Fetched", r, d)
		shows(t, r, front+"side", "f", ten+"11\n")
	}
}

// TestFetchedName: 14.4, names of remotes that are none; ahead of all other errors.
func TestFetchedName(t *testing.T) {
	_, server := sender(t)
	offer, pack := sentAll(t, server)
	d, r := create(t)
	commit(t, r, "f", "1")
	most := strings.Repeat("n", api.MaxName-len("refs/remotes//x"))
	for _, remote := range []string{"", "a b", "a..b", "x/", "/x", ".x", "x/.y", "x.lock", "x.lock/y", "x~", "a:b", "x\n", "x\x7f", "ü", "a//b", "@{", most + "n"} {
		nothingAdded(t, "the name "+remote, r, d, remote, offer, pack, bob, api.ErrName)
		nothingAdded(t, "the name "+remote, r, d, remote, []byte("noise"), []byte("noise"), api.Person{Name: "<"}, api.ErrName)
	}
	// Of the longest one that is a name only short branches can be fetched.
	id := refID(t, r, "HEAD")
	for _, name := range []string{most, "lock", "end.", "-"} {
		done(t, "Fetched", r.Fetched(name, anOffer(t, ref("refs/heads/x", id)), nil, bob))
		stands(t, r, "refs/remotes/"+name+"/x", id)
	}
	two := anOffer(t, ref("refs/heads/x", id), ref("refs/heads/xx", id), ref("refs/tags/new", id))
	fetchRefused(t, "a branch that is too long", r, d, most, two, nil, bob, api.ErrName)
}

// TestFetchedNoOffer: 14.4, bytes that are no offer; the pack is not looked at.
func TestFetchedNoOffer(t *testing.T) {
	_, server := sender(t)
	offer, pack := sentAll(t, server)
	d, r := create(t)
	commit(t, r, "f", "1")
	for _, p := range [][]byte{nil, pack, pack[1:]} {
		nothingAdded(t, "cut", r, d, "o", offer[:len(offer)-2], p, bob, api.ErrWire)
		nothingAdded(t, "without its front", r, d, "o", offer[1:], p, bob, api.ErrWire)
		nothingAdded(t, "nothing", r, d, "o", nil, p, bob, api.ErrTalk)
		nothingAdded(t, "a want", r, d, "o", aWant(t, nil), p, bob, api.ErrTalk)
	}
}

// TestFetchedNoPack: 14.4, packs that are cut, or noise, or whose bases are not there; even if none is needed.
func TestFetchedNoPack(t *testing.T) {
	_, server := sender(t)
	offer, p := sentAll(t, server)
	full, r := clone(t, server)
	fresh, empty := create(t)
	thin, err := pack.Thin([]api.Object{blob(bigText(1, 3000) + "x")}, []api.Object{blob(bigText(1, 3000))})
	bytesOf(t, "Thin", thin, err)
	for what, c := range map[string]struct {
		pack []byte
		want api.Errno
	}{
		"cut": {p[:len(p)-1], api.ErrPack}, "one byte": {p[:1], api.ErrPack}, "a bit is turned": {append([]byte{p[0] ^ 1}, p[1:]...), api.ErrPack},
		"more behind it": {append(slices.Clone(p), 0), api.ErrPack}, "noise": {[]byte("noise"), api.ErrPack}, "PACK": {[]byte("PACK"), api.ErrPack},
		"without its base": {thin, api.ErrBase},
	} {
		nothingAdded(t, what, r, full, "o", offer, c.pack, bob, c.want)
		nothingAdded(t, what, empty, fresh, "o", offer, c.pack, bob, c.want)
		nothingAdded(t, what, empty, fresh, "o", offer, c.pack, api.Person{Name: "<"}, c.want)
	}
}

// TestFetchedSent: 14.4, not all was sent that is offered, of whatever ref: no ref is made, and what was sent stays.
func TestFetchedSent(t *testing.T) {
	_, server := sender(t)
	offer, p := sentAll(t, server)
	l, err := pack.Read(p, nil)
	done(t, "pack.Read", err)
	d, r := create(t)
	fetchRefused(t, "no pack", r, d, "o", offer, nil, bob, api.ErrSent)
	fetchRefused(t, "a pack of nothing", r, d, "o", offer, aPack(t), bob, api.ErrSent)
	hasObjects(t, "nothing was sent", r)
	for i := range l {
		d, r := create(t)
		some := slices.Delete(slices.Clone(l), i, i+1)
		fetchRefused(t, "one is not sent", r, d, "o", offer, aPack(t, some...), bob, api.ErrSent)
		var ids []api.ID
		for _, o := range some {
			ids = append(ids, idOf(t, o))
		}
		hasObjects(t, "what was sent", r, ids...)
		done(t, "the last one", r.Fetched("o", offer, aPack(t, l[i]), bob))
		is(t, "Check", r.Check(), api.OK)
	}
	d, r = clone(t, server)
	main := refID(t, r, "HEAD")
	wrong := api.Object{Kind: api.Commit, Data: []byte("no commit")}
	for what, x := range map[string]api.Ref{
		"a branch": ref("refs/heads/z", api.ID{1}), "a tag": ref("refs/tags/z", api.ID{1}), "a tag that is there": ref("refs/tags/v", api.ID{1}),
		"another ref": ref("refs/x/y", api.ID{1}), "HEAD": ref("HEAD", api.ID{1}), "nought": ref("refs/heads/z", nought), "no commit": ref("refs/heads/z", idOf(t, wrong)),
	} {
		fetchRefused(t, what, r, d, "o", anOffer(t, ref("refs/heads/new", main), x), aPack(t, wrong), bob, api.ErrSent)
		fetchRefused(t, what+", and who", r, d, "o", anOffer(t, ref("refs/heads/new", main), x), nil, api.Person{Name: "<"}, api.ErrSent)
	}
}

// TestFetchedAgain: 14.4, what is so already is no change; what is ahead, behind, beside is changed; what is offered no more stays.
func TestFetchedAgain(t *testing.T) {
	serverDisk, server := sender(t)
	d, r := clone(t, server)
	unchanged(t, "nothing is new", r, d, func() {
		if n := fetch(t, server, r, "o"); n != 0 {
			t.Errorf("%d objects", n)
		}
	})
	main, side, ahead := refID(t, server, "refs/heads/main"), refID(t, server, "refs/heads/side"), refID(t, server, "refs/heads/ahead")
	toSwitch(t, server, "side")
	next := commit(t, server, "f", "ahead of side")
	done(t, "Drop", server.Drop("main"))
	branch(t, server, "new", hex(main))
	layRef(t, serverDisk, "refs/heads/ahead", refID(t, server, "refs/tags/v"))
	server = open(t, serverDisk)
	if n := fetch(t, server, r, "o"); n != 3 {
		t.Errorf("%d objects", n)
	}
	stands(t, r, "refs/remotes/o/main", main) // it was dropped there, not here
	reflog(t, r, "refs/remotes/o/main", 1, api.LogEntry{New: main, Who: bob, Text: "fetch"})
	stands(t, r, "refs/remotes/o/side", next)
	reflog(t, r, "refs/remotes/o/side", 2, api.LogEntry{Old: side, New: next, Who: bob, Text: "fetch"})
	stands(t, r, "refs/remotes/o/ahead", refID(t, server, "refs/tags/v"))
	reflog(t, r, "refs/remotes/o/ahead", 2, api.LogEntry{Old: ahead, New: refID(t, server, "refs/tags/v"), Who: bob, Text: "fetch"})
	reflog(t, r, "refs/remotes/o/new", 1, api.LogEntry{New: main, Who: bob, Text: "fetch"})
	stands(t, r, "HEAD", main)
	tellsTheSame(t, "again", r, d)
	// Another remote is another one.
	done(t, "Fetched", r.Fetched("p", offerOf(t, server), nil, ann))
	for _, x := range []string{"ahead", "new", "side"} {
		reflog(t, r, "refs/remotes/p/"+x, 1, api.LogEntry{New: refID(t, server, "refs/heads/"+x), Who: ann, Text: "fetch"})
	}
	stands(t, r, "refs/remotes/p/main", nought)
	reflog(t, r, "refs/remotes/o/side", 2, api.LogEntry{Old: side, New: next, Who: bob, Text: "fetch"})
}

// TestFetchedTags: 14.4, tags that are there stay as they are, whatever they stand for; others are made.
func TestFetchedTags(t *testing.T) {
	_, server := create(t)
	a := commit(t, server, "f", "1")
	for _, name := range []string{"same", "other", "new", "deep/er"} {
		tag(t, server, name, "HEAD")
	}
	d, r := create(t)
	fetch(t, server, r, "o")
	drop := func(name string) { layRef(t, d, "refs/tags/"+name, nought) }
	drop("new")
	drop("deep/er")
	drop("other")
	layRef(t, d, "refs/tags/other", a)
	layLink(t, d, "refs/tags/deep/er", "refs/y/to-come")
	r = open(t, d)
	for range 2 {
		if n := fetch(t, server, r, "o"); n != 0 {
			t.Errorf("%d objects", n)
		}
		stands(t, r, "refs/tags/other", a)
		reflog(t, r, "refs/tags/other", 1, api.LogEntry{New: a, Who: bob, Text: "laid"})
		reflog(t, r, "refs/tags/same", 1, api.LogEntry{New: refID(t, server, "refs/tags/same"), Who: bob, Text: "fetch"})
		reflog(t, r, "refs/tags/new", 1, api.LogEntry{New: refID(t, server, "refs/tags/new"), Who: bob, Text: "fetch"})
		stands(t, r, "refs/tags/deep/er", refID(t, server, "refs/tags/deep/er"))
	}
	tellsTheSame(t, "tags", r, d)
}

// TestFetchedOthers: 14.4, other refs that are offered are left out.
func TestFetchedOthers(t *testing.T) {
	_, server := create(t)
	a := commit(t, server, "f", "1")
	_, p := sentAll(t, server)
	d, r := create(t)
	offer := anOffer(t, ref("HEAD", a), ref("refs/heads", a), ref("refs/headsup/x", a), ref("refs/remotes/o/y", a), ref("refs/tags", a), ref("refs/tagsx", a), ref("refs/x", a))
	done(t, "Fetched", r.Fetched("o", offer, p, bob))
	if l := r.Refs(); len(l) > 0 {
		t.Errorf("%v", l)
	}
	hasObjects(t, "what was sent", r, packed(t, p, nil)...)
	tellsTheSame(t, "others", r, d)
}

// TestFetchedUpdate: 14.4, the errors of the one Update: all refs are changed or none; one of no changes tells them, too.
func TestFetchedUpdate(t *testing.T) {
	_, server := sender(t)
	offer, p := sentAll(t, server)
	d, r := create(t)
	for _, who := range []api.Person{{Name: "<"}, {Mail: "\n"}, {Time: -1}, {Zone: 900}} {
		fetchRefused(t, "who", r, d, "o", offer, p, who, api.ErrAuthor)
		fetchRefused(t, "who, of no changes", r, d, "o", anOffer(t), nil, who, api.ErrAuthor)
	}
	done(t, "nobody", r.Fetched("o", offer, nil, nobody))
	reflog(t, r, "refs/remotes/o/main", 1, api.LogEntry{New: refID(t, server, "refs/heads/main"), Text: "fetch"})
	unchanged(t, "no changes", r, d, func() { done(t, "no changes", r.Fetched("o", anOffer(t), nil, bob)) })
	main := refID(t, server, "refs/heads/main")
	clash := anOffer(t, ref("refs/heads/first", main), ref("refs/heads/main/x", main), ref("refs/tags/last", main))
	fetchRefused(t, "a name that is another one's beginning", r, d, "o", clash, nil, bob, api.ErrClash)
	done(t, "elsewhere", r.Fetched("p", clash, nil, bob))
	layLink(t, d, "refs/remotes/o/loop", "refs/remotes/o/pool")
	layLink(t, d, "refs/remotes/o/pool", "refs/remotes/o/loop")
	r = open(t, d)
	fetchRefused(t, "refs in a ring", r, d, "o", anOffer(t, ref("refs/heads/first", main), ref("refs/heads/loop", main)), nil, bob, api.ErrLoop)
	layRef(t, d, "refs/remotes/q/main", main)
	layLink(t, d, "refs/remotes/q/leads", "refs/remotes/q/main")
	r = open(t, d)
	side := refID(t, server, "refs/heads/side")
	fetchRefused(t, "two that lead to one", r, d, "q", anOffer(t, ref("refs/heads/leads", side), ref("refs/heads/main", side)), nil, bob, api.ErrName)
	done(t, "where one leads to", r.Fetched("q", anOffer(t, ref("refs/heads/leads", side)), nil, bob))
	stands(t, r, "refs/remotes/q/main", side)
}

// TestFetchedThin: 14.4 and 14.3, a pack whose deltas stand on what is here.
func TestFetchedThin(t *testing.T) {
	_, server := create(t)
	big := bigText(2, 5000)
	commit(t, server, "f", big)
	d, r := clone(t, server)
	commit(t, server, "f", big+"more")
	offer := offerOf(t, server)
	want, err := r.Wants(offer)
	p, err := server.Upload(bytesOf(t, "Wants", want, err))
	if _, err := pack.Read(bytesOf(t, "Upload", p, err), nil); api.Tell(err) != api.ErrBase {
		t.Errorf("it stands on nothing: %v", err)
	}
	done(t, "Fetched", r.Fetched("o", offer, p, bob))
	shows(t, r, "refs/remotes/o/main", "f", big+"more")
	tellsTheSame(t, "thin", r, d)
	fresh, empty := create(t)
	nothingAdded(t, "without the bases", empty, fresh, "o", offer, p, bob, api.ErrBase)
}
