package repo_test

import (
	"testing"

	"gitlike/api"
	"gitlike/repo"
	"gitlike/wire"
)

// statusOf is the error of Receive, or the status of the first change.
func statusOf(r *repo.Repo, push []byte) error {
	b, err := r.Receive(push)
	if err != nil {
		return zero(b == nil, err)
	}
	l, err := wire.ReadStatus(b)
	if err != nil || len(l) == 0 || l[0].Err == 0 {
		return err
	}
	return l[0].Err
}

// taken is the error of Receive alone.
func taken(r *repo.Repo, push []byte) error {
	b, err := r.Receive(push)
	return zero(b == nil, err)
}

// exchangeActs is calls of all kinds that two repositories make with each other.
func exchangeActs(t *testing.T) []act {
	serverDisk, server := sender(t)
	cloneDisk, client := clone(t, server)
	commit(t, server, "f", "0\n"+ten+"server\n", "big", bigText(1, 400))
	tag(t, server, "new", "HEAD")
	offer, all := sentAll(t, server)
	want, err := client.Wants(offer)
	bytesOf(t, "Wants", want, err)
	thin, err := server.Upload(want)
	bytesOf(t, "Upload", thin, err)
	serverDisk, cloneDisk = serverDisk.Copy(), cloneDisk.Copy()
	fetchedDisk := cloneDisk.Copy()
	done(t, "Fetched", open(t, fetchedDisk).Fetched("o", offer, thin, bob))
	collected := fetchedDisk.Copy()
	done(t, "Collect", open(t, collected).Collect())
	fresh, _ := create(t)

	aheadDisk := fetchedDisk.Copy()
	ahead := open(t, aheadDisk)
	_, err = ahead.Merge("refs/remotes/o/main", bob, "m")
	done(t, "Merge", err)
	x := commit(t, ahead, "f", "0\n"+ten+"client\n")
	push := pushTo(t, ahead, server, "main", false)
	_, p, err := wire.ReadPush(push)
	done(t, "ReadPush", err)
	aheadDisk = aheadDisk.Copy()
	main, side := refID(t, server, "refs/heads/main"), refID(t, server, "refs/heads/side")
	several := []api.Change{
		{Name: "refs/heads/main", Old: main, New: x}, {Name: "refs/heads/main/x", New: x}, {Name: "refs/heads/side", Old: side},
		{Name: "refs/heads/side/x", New: x}, {Name: "refs/x", New: x}, {Name: "refs/tags/w", New: side}, {Name: "refs/heads/none", New: api.ID{1}},
	}
	return []act{
		{"Offer", serverDisk, func(r *repo.Repo) error { b, err := r.Offer(); return zero(b == nil, err) }, api.OK, nil},
		{"Wants of all", fresh, func(r *repo.Repo) error { b, err := r.Wants(offer); return zero(b == nil, err) }, api.OK, nil},
		{"Wants of some", cloneDisk, func(r *repo.Repo) error { b, err := r.Wants(offer); return zero(b == nil, err) }, api.OK, nil},
		{"Wants of nothing", collected, func(r *repo.Repo) error { b, err := r.Wants(offer); return zero(b == nil, err) }, api.ErrNothing, nil},
		{"Upload", serverDisk, func(r *repo.Repo) error { b, err := r.Upload(want); return zero(b == nil, err) }, api.OK, nil},
		{"Fetched, all", fresh, func(r *repo.Repo) error { return r.Fetched("o", offer, all, bob) }, api.OK, nil},
		{"Fetched, some", cloneDisk, func(r *repo.Repo) error { return r.Fetched("o", offer, thin, bob) }, api.OK, nil},
		{"Fetched, nothing", fetchedDisk, func(r *repo.Repo) error { return r.Fetched("o", offer, nil, bob) }, api.OK, nil},
		{"Fetched as another remote", collected, func(r *repo.Repo) error { return r.Fetched("p", offer, nil, bob) }, api.OK, nil},
		{"Fetched, too little", cloneDisk, func(r *repo.Repo) error { return r.Fetched("o", offer, aPack(t, blob("x")), bob) }, api.ErrSent, nil},
		{"Fetched, no pack", cloneDisk, func(r *repo.Repo) error { return r.Fetched("o", offer, thin[1:], bob) }, api.ErrPack, nil},
		{"Pushes", aheadDisk, func(r *repo.Repo) error { b, err := r.Pushes(offer, "main", false); return zero(b == nil, err) }, api.OK, nil},
		{"Pushes of what is beside", cloneDisk, func(r *repo.Repo) error { b, err := r.Pushes(offer, "main", false); return zero(b == nil, err) }, api.ErrForward, nil},
		{"Receive", serverDisk, func(r *repo.Repo) error { return statusOf(r, push) }, api.OK, nil},
		{"Receive by a new one", fresh, func(r *repo.Repo) error {
			return statusOf(r, aPush(t, all, api.Change{Name: "refs/heads/main", New: main}))
		}, api.OK, nil},
		{"Receive of what is not sent", serverDisk, func(r *repo.Repo) error { return statusOf(r, aPush(t, p, several[6])) }, api.ErrSent, nil},
		{"Receive of no pack", serverDisk, func(r *repo.Repo) error { return statusOf(r, push[:len(push)-1]) }, api.ErrPack, nil},
		{"Receive of a pack alone", serverDisk, func(r *repo.Repo) error { return taken(r, aPush(t, p)) }, api.OK, nil},
		{"Receive of several", serverDisk, func(r *repo.Repo) error { return taken(r, aPush(t, p, several...)) }, api.OK, parts(t, p, several)},
	}
}

// parts is a push of the first changes alone, one more each time.
func parts(t *testing.T, pack []byte, l []api.Change) (do []func(r *repo.Repo) error) {
	for i := range l {
		do = append(do, func(r *repo.Repo) error { return taken(r, aPush(t, pack, l[:i]...)) })
	}
	return do
}

// TestSeveralAreParts: of the several changes that are broken off some make states of their own.
func TestSeveralAreParts(t *testing.T) {
	acts := exchangeActs(t)
	states := map[string]bool{}
	for _, s := range acts[len(acts)-1].states(t) {
		states[s] = true
	}
	if len(states) != 5 {
		t.Errorf("%d states", len(states))
	}
}

// TestUnsafeFetched: 14.7 and P16, Fetched or Receive failed and left objects that are not safe yet: no ref leads to them before they are, be it made by the same repository or by one that was opened, with the pack or without it.
func TestUnsafeFetched(t *testing.T) {
	_, server := sender(t)
	cloneDisk, client := clone(t, server)
	id := commit(t, server, "f", "0\n"+ten+"server\n")
	offer := offerOf(t, server)
	want, err := client.Wants(offer)
	pack, err := server.Upload(bytesOf(t, "Wants", want, err))
	bytesOf(t, "Upload", pack, err)
	cloneDisk = cloneDisk.Copy()
	met := 0
	for what, lead := range map[string]func(r *repo.Repo) error{
		"Fetched": func(r *repo.Repo) error { return r.Fetched("p", offer, nil, bob) },
		"Receive": func(r *repo.Repo) error {
			return statusOf(r, aPush(t, nil, api.Change{Name: "refs/heads/new", New: id}))
		},
		"Fetched with the pack": func(r *repo.Repo) error { return r.Fetched("p", offer, pack, bob) },
		"Receive with the pack": func(r *repo.Repo) error {
			return statusOf(r, aPush(t, pack, api.Change{Name: "refs/heads/new", New: id}))
		},
	} {
		for after := 0; ; after++ {
			d := cloneDisk.Copy()
			r := open(t, d)
			d.Fail(after, forever)
			err := r.Fetched("o", offer, pack, bob)
			d.Fail(0, 0)
			if api.Tell(err) != api.ErrDisk {
				done(t, "Fetched", err)
				break
			}
			if after%2 == 0 {
				r = open(t, d)
			}
			if err := lead(r); err == nil {
				met++
			} else if api.Tell(err) != api.ErrSent {
				t.Errorf("%s: %v", what, err)
			}
			was := told(t, r)
			d.Crash(0, 0)
			r = open(t, d)
			allThere(t, what, r)
			if now := told(t, r); now != was {
				t.Errorf("%s: it told\n%s, and behind a crash\n%s", what, was, now)
			}
		}
	}
	if met < 20 {
		t.Errorf("it was there %d times", met)
	}
}
