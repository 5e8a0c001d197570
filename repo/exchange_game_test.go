package repo_test

import (
	"fmt"
	"math/rand"
	"slices"
	"strings"
	"testing"

	"gitlike/api"
	"gitlike/pack"
	"gitlike/repo"
	"gitlike/wire"
)

const (
	exchangeGames = 120
	players       = 3
)

// fair is a game of several repositories that exchange what they have, each with a model of its own.
type fair struct {
	*game // whose lot is drawn
	all   [players]*game
}

// fairNames is all names that refs of such a game may have.
func fairNames() []string {
	l := refNames()
	for _, remote := range []string{"o", "p/q"} {
		for _, b := range branchNames[:5] {
			l = append(l, "refs/remotes/"+remote+"/"+b)
		}
	}
	return l
}

func newFair(t *testing.T, seed int64, counts map[string]int) *fair {
	t.Helper()
	f := &fair{}
	lot := rand.New(rand.NewSource(seed))
	for i := range f.all {
		g := newGame(t, seed, counts)
		g.lot, g.model.names, g.calm = lot, fairNames(), seed%4 > 0
		f.all[i] = g
	}
	f.game = f.all[0]
	f.begin()
	if lot.Intn(4) == 0 {
		f.all[1].begin() // with a history of its own
	}
	return f
}

// one is a player.
func (f *fair) one() *game { return f.all[f.lot.Intn(players)] }

// two is two different players.
func (f *fair) two() (one, other *game) {
	i := f.lot.Intn(players)
	return f.all[i], f.all[(i+1+f.lot.Intn(players-1))%players]
}

// spoil turns bytes into others, now and then.
func (f *fair) spoil(b []byte) []byte {
	b = slices.Clone(b)
	if f.lot.Intn(8) > 0 || len(b) == 0 {
		return b
	}
	switch at := f.lot.Intn(len(b)); f.lot.Intn(4) {
	case 0:
		b[at] ^= 1 << f.lot.Intn(8)
	case 1:
		b = b[:at]
	case 2:
		b = slices.Delete(b, at, min(len(b), at+f.lot.Intn(100)))
	case 3:
		b = slices.Insert(b, at, b[f.lot.Intn(at+1):]...)
	}
	return b
}

func (f *fair) remote() string {
	if f.lot.Intn(10) > 0 {
		return "o"
	}
	return pick(f.game, []string{"p/q", "", "a b"})
}

// offer is what one offers, or others do, or noise.
func (f *fair) offer(g *game) []byte {
	got, err := g.repo.Offer()
	want, wantErr := g.model.Offer()
	g.same("Offer", got, want, err, wantErr)
	switch f.lot.Intn(10) {
	case 0:
		return f.spoil(got)
	case 1:
		return f.madeUp(g)
	}
	return got
}

// madeUp is an offer of refs as they may be.
func (f *fair) madeUp(g *game) []byte {
	var l []api.Ref
	for _, name := range append(fairNames(), "refs/heads/unknown", "refs/tags/unknown") {
		if f.lot.Intn(6) == 0 && !slices.ContainsFunc(l, func(r api.Ref) bool { return r.Name == name }) {
			l = append(l, ref(name, pick(f.game, append(f.one().made, append(g.made, nought)...))))
		}
	}
	return anOffer(f.t, l...)
}

// samePack wants a pack to have just what a parcel has, in whatever order.
func (g *game) samePack(call string, b []byte, want parcel) {
	g.t.Helper()
	l, err := pack.Read(b, want.bases)
	if err != nil {
		g.t.Fatalf("%s: %v", call, err)
	}
	var ids []api.ID
	for _, o := range l {
		ids = append(ids, idOf(g.t, o))
	}
	sortIDs(ids)
	if !slices.Equal(ids, want.sent) {
		g.t.Fatalf("%s: %x for %x", call, ids, want.sent)
	}
	kind := "some"
	if len(ids) == 0 {
		kind = "none"
	} else if _, err := pack.Read(b, nil); err != nil {
		kind = "thin"
	}
	g.counts[call+" "+kind]++
}

// fetch lets one player fetch from another one.
func (f *fair) fetch() {
	to, from := f.two()
	offer := f.offer(from)
	want, err := to.repo.Wants(offer)
	expected, expectedErr := to.model.Wants(offer)
	to.same("Wants", want, expected, err, expectedErr)
	var b []byte
	if err == nil {
		b = f.upload(from, f.spoil(want))
	}
	remote, who := f.remote(), f.who()
	b = f.spoil(b)
	err = to.repo.Fetched(remote, offer, b, who)
	to.same("Fetched "+remote, "", "", err, to.model.Fetched(remote, offer, b, who))
	if err == nil {
		f.leftNothingOut(to, offer, remote)
	}
}

// upload is what one sends for a want.
func (f *fair) upload(from *game, want []byte) []byte {
	if f.lot.Intn(10) == 0 { // other ids than were asked for, or are there
		_, other := f.two()
		wanted := []api.ID{pick(f.game, from.made)}
		for _, r := range from.model.offer().Refs {
			if f.lot.Intn(2) == 0 && !slices.Contains(wanted, r.ID) {
				wanted = append(wanted[:len(wanted)-f.lot.Intn(2)], r.ID)
			}
		}
		have := slices.Clone(other.made)
		sortIDs(have)
		want = aWant(f.t, wanted, slices.Compact(have)...)
	}
	b, err := from.repo.Upload(want)
	p, wantErr := from.model.Upload(want)
	from.same("Upload", len(b) > 0, wantErr == nil, err, wantErr)
	if err == nil {
		from.samePack("Upload", b, p)
	}
	return b
}

// leftNothingOut wants all that is offered to be there, and whole.
func (f *fair) leftNothingOut(to *game, offer []byte, remote string) {
	f.t.Helper()
	o, err := wire.ReadOffer(offer)
	done(f.t, "ReadOffer", err)
	for _, r := range o.Refs {
		if !to.model.isWhole(r.ID) {
			f.t.Fatalf("%s is not whole", r.Name)
		}
		to.met(r.ID)
		if branch, is := strings.CutPrefix(r.Name, "refs/heads/"); is && f.calm { // else one may lead to another one
			stands(f.t, to.repo, "refs/remotes/"+remote+"/"+branch, r.ID)
		}
	}
}

// push lets one player push to another one.
func (f *fair) push() {
	from, to := f.two()
	offer, branch, force := f.offer(to), f.branch(), f.lot.Intn(3) == 0
	b, err := from.repo.Pushes(offer, branch, force)
	change, p, wantErr := from.model.Pushes(offer, branch, force)
	from.same("Pushes "+branch, len(b) > 0, wantErr == nil, err, wantErr)
	if err != nil && f.lot.Intn(4) > 0 {
		return
	}
	l := f.changes(to)
	if err == nil {
		got, packed, err := wire.ReadPush(b)
		if err != nil || len(got) != 1 || got[0] != change {
			f.t.Fatalf("Pushes: %v, %v for %v", got, err, change)
		}
		from.samePack("Pushes", packed, p)
		if f.lot.Intn(3) == 0 {
			l = slices.DeleteFunc(l, func(x api.Change) bool { return x.Name == change.Name })
			b = aPush(f.t, packed, append(l, change)...)
		}
	} else {
		b = aPush(f.t, nil, l...)
	}
	f.receive(to, f.spoil(b), err == nil && !force)
}

// changes is some that may be asked for.
func (f *fair) changes(to *game) (l []api.Change) {
	for _, name := range to.model.names {
		many := 5
		if !strings.HasPrefix(name, "refs/heads/") && !strings.HasPrefix(name, "refs/tags/") {
			many = 25
		}
		if f.lot.Intn(many) > 0 || slices.ContainsFunc(l, func(x api.Change) bool { return x.Name == name }) {
			continue
		}
		old, _ := to.model.refs.Read(name)
		if f.lot.Intn(4) == 0 {
			old = pick(f.game, append(to.made, nought))
		}
		l = append(l, api.Change{Name: name, Old: old, New: pick(f.game, append(slices.Clone(to.made), nought, pick(f.game, f.one().made)))})
	}
	return l
}

// receive lets a player take what is pushed.
func (f *fair) receive(to *game, b []byte, gently bool) {
	was := told(f.t, to.repo)
	before := to.model.clone(f.t)
	got, err := to.repo.Receive(b)
	want, wantErr := to.model.Receive(b)
	to.same("Receive", got, want, err, wantErr)
	if err != nil {
		if now := told(f.t, to.repo); now != was {
			f.t.Fatalf("Receive: it told\n%s, and now\n%s", was, now)
		}
		return
	}
	l, err := wire.ReadStatus(got)
	done(f.t, "ReadStatus", err)
	for _, s := range l {
		to.counts[fmt.Sprintf("status %d", s.Err)]++
	}
	// What it had is there as it was, and no ref leads to what is not all there.
	for id, o := range before.objects {
		if now := to.model.objects[id]; now.Kind != o.Kind || string(now.Data) != string(o.Data) {
			f.t.Fatalf("%x is lost", id)
		}
	}
	if before.Check() == nil {
		done(f.t, "Check", to.repo.Check())
	}
}

// follow lets a player have a branch that was fetched.
func (f *fair) follow() {
	g, name := f.one(), f.branch()
	from := "refs/remotes/o/" + name
	g.same("Branch "+name+" at "+from, "", "", g.repo.Branch(name, from), g.model.Branch(name, from))
}

// play makes a step: of one alone, or of two.
func (f *fair) play() {
	switch f.lot.Intn(7) {
	case 0:
		g := f.one()
		if !f.calm && f.lot.Intn(2) == 0 {
			g.lay()
			g.repo = open(g.t, g.disk)
		}
		g.step()
	case 1:
		f.one().step()
	case 2, 3:
		f.fetch()
	case 4:
		f.follow()
	case 5, 6:
		f.push()
	}
	for _, g := range f.all {
		g.agree()
	}
}

// meet lets one fetch, merge and push, on copies of the disks: then both have the same, and all commits of both.
func (f *fair) meet() {
	one, other := f.two()
	if !f.calm || one.model.Check() != nil || other.model.Check() != nil {
		return
	}
	if id, _ := other.model.refs.Read("refs/heads/main"); other.model.objects[id].Kind != api.Commit {
		return // a tag's commit would be merged, not the tag
	}
	client, server := open(f.t, one.disk.Copy()), open(f.t, other.disk.Copy())
	branch, _ := client.Head()
	ours, err := client.Log("refs/heads/main")
	theirs, theirErr := server.Log("refs/heads/main")
	if branch != "main" || err != nil || theirErr != nil {
		return
	}
	err = f.meets(client, server)
	f.counts[fmt.Sprintf("meet %d", api.Tell(err))]++
	if err != nil {
		return
	}
	stands(f.t, server, "refs/heads/main", refID(f.t, client, "HEAD"))
	l, err := server.Log("main")
	done(f.t, "Log", err)
	for _, id := range slices.Concat(ours, theirs) {
		if !slices.Contains(l, id) {
			f.t.Fatalf("%x is lost", id)
		}
	}
	here, err := client.Files("HEAD")
	there, thereErr := server.Files("main")
	if err != nil || thereErr != nil || listed(here) != listed(there) {
		f.t.Fatalf("%s, %v for %s, %v", listed(here), err, listed(there), thereErr)
	}
	done(f.t, "Check", server.Check())
	done(f.t, "Check", client.Check())
}

// meets fetches, merges and pushes: what is in the way are names that clash, and what cannot be merged.
func (f *fair) meets(client, server *repo.Repo) error {
	offer := offerOf(f.t, server)
	var sent []byte
	if want, err := client.Wants(offer); err == nil {
		sent, err = server.Upload(want)
		bytesOf(f.t, "Upload", sent, err)
	}
	if err := client.Fetched("z", offer, sent, ann); err != nil {
		is(f.t, "Fetched", err, api.ErrClash)
		return err
	}
	if _, err := client.Merge("refs/remotes/z/main", ann, "m"); err != nil && api.Tell(err) != api.ErrNothing {
		is(f.t, "Merge", err, api.ErrConflict)
		return err
	}
	if e := push(f.t, client, server, "main", false); e != 0 && e != api.ErrNothing {
		f.t.Fatalf("push: %v", e)
	}
	return nil
}

// TestExchangeByLot: 14.1 to 14.6 and P16, three repositories by lot, and models of them.
func TestExchangeByLot(t *testing.T) {
	const tables = 8
	var each [tables]map[string]int
	t.Run("tables", func(t *testing.T) {
		for i := range int64(tables) {
			each[i] = map[string]int{}
			t.Run(fmt.Sprint(i), func(t *testing.T) {
				t.Parallel()
				for seed := i * exchangeGames / tables; seed < (i+1)*exchangeGames/tables; seed++ {
					f := newFair(t, seed, each[i])
					for range 50 {
						f.play()
						if f.lot.Intn(10) == 0 {
							f.meet()
						}
					}
				}
			})
		}
	})
	counts := map[string]int{}
	for _, m := range each {
		for what, n := range m {
			counts[what] += n
		}
	}
	for what, least := range map[string]int{
		"Offer 0": 1000,
		"Wants 0": 200, "Wants 110": 5, "Wants 111": 1, "Wants 123": 200,
		"Upload 0": 200, "Upload 110": 10, "Upload 111": 5, "Upload 112": 20, "Upload 50": 2, "Upload some": 100, "Upload thin": 30, "Upload none": 10,
		"Fetched 0": 300, "Fetched 110": 5, "Fetched 111": 1, "Fetched 40": 20, "Fetched 60": 20, "Fetched 63": 5, "Fetched 113": 50, "Fetched 125": 10,
		"Pushes 0": 200, "Pushes 110": 5, "Pushes 111": 1, "Pushes 60": 20, "Pushes 61": 50, "Pushes 123": 50, "Pushes 50": 2, "Pushes 124": 50, "Pushes some": 50, "Pushes thin": 30, "Pushes none": 20,
		"Receive 0": 300, "Receive 110": 10, "Receive 111": 5, "status 0": 200, "status 40": 10, "status 41": 1, "status 60": 50, "status 62": 20, "status 63": 5, "status 113": 30, "status 121": 5,
		"meet 0": 50, "meet 122": 10,
	} {
		if counts[what] < least {
			t.Errorf("%s: %d times, not %d", what, counts[what], least)
		}
	}
}
