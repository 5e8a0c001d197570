package repo_test

import (
	"bytes"
	"fmt"
	"testing"

	"gitlike/api"
	"gitlike/repo"
)

// leavesAlone wants a call to change neither the bytes that it is given nor the room behind them, and to keep nothing of them.
func leavesAlone(t *testing.T, what string, d *api.Disk, call func(r *repo.Repo, l [][]byte), given ...[]byte) {
	t.Helper()
	r := open(t, d)
	var lists, wholes [][]byte
	for _, b := range given {
		l, whole := withRoom(b, 0xa5)
		lists, wholes = append(lists, l), append(wholes, whole)
	}
	was := fmt.Sprint(wholes)
	call(r, lists)
	if now := fmt.Sprint(wholes); now != was {
		t.Errorf("%s: %.200s is changed to %.200s", what, was, now)
	}
	before := told(t, r)
	for _, whole := range wholes {
		scribble(whole, 'x')
	}
	if now := told(t, r); now != before {
		t.Errorf("%s: it told\n%s, and now\n%s", what, before, now)
	}
	tellsTheSame(t, what, r, d)
}

// TestExchangeLeavesAlone: offers, wants, pushes and packs are neither changed nor kept, be they taken or refused.
func TestExchangeLeavesAlone(t *testing.T) {
	serverDisk, server := sender(t)
	cloneDisk, client := clone(t, server)
	commit(t, server, "f", "0\n"+ten+"server\n", "big", bigText(1, 400))
	commit(t, client, "f", "0\n"+ten+"client\n")
	offer, all := sentAll(t, server)
	want, err := client.Wants(offer)
	bytesOf(t, "Wants", want, err)
	thin, err := server.Upload(want)
	bytesOf(t, "Upload", thin, err)
	push := pushTo(t, client, server, "main", true)
	fresh, _ := create(t)
	for _, cut := range []int{0, 1, 20} {
		less := func(b []byte) []byte { return b[:len(b)-cut] }
		for _, d := range []*api.Disk{serverDisk, cloneDisk, fresh} {
			leavesAlone(t, "Wants", d.Copy(), func(r *repo.Repo, l [][]byte) { r.Wants(l[0]) }, less(offer))
			leavesAlone(t, "Upload", d.Copy(), func(r *repo.Repo, l [][]byte) { r.Upload(l[0]) }, less(want))
			leavesAlone(t, "Receive", d.Copy(), func(r *repo.Repo, l [][]byte) { r.Receive(l[0]) }, less(push))
			leavesAlone(t, "Pushes", d.Copy(), func(r *repo.Repo, l [][]byte) { r.Pushes(l[0], "main", true) }, less(offer))
			for _, pack := range [][]byte{all, thin, nil} {
				leavesAlone(t, "Fetched", d.Copy(), func(r *repo.Repo, l [][]byte) { r.Fetched("o", l[0], l[1], bob) }, less(offer), pack)
				leavesAlone(t, "Fetched", d.Copy(), func(r *repo.Repo, l [][]byte) { r.Fetched("o", l[0], l[1], bob) }, offer, pack[:max(0, len(pack)-cut)])
			}
		}
	}
}

// TestExchangeAnswersAreNew: the bytes of an answer share nothing with other answers, with what was handed in, or with what is kept.
func TestExchangeAnswersAreNew(t *testing.T) {
	d, server := sender(t)
	cloneDisk, client := clone(t, server)
	commit(t, server, "f", "0\n"+ten+"server\n")
	commit(t, client, "f", "0\n"+ten+"client\n")
	offer := offerOf(t, server)
	want, err := client.Wants(offer)
	bytesOf(t, "Wants", want, err)
	write := func(b []byte) { scribble(b, 'x') }
	for what, x := range map[string]struct {
		r    *repo.Repo
		d    *api.Disk
		call func() ([]byte, error)
	}{
		"Offer":  {server, d, server.Offer},
		"Wants":  {client, cloneDisk, func() ([]byte, error) { return client.Wants(offer) }},
		"Upload": {server, d, func() ([]byte, error) { return server.Upload(want) }},
		"Pushes": {client, cloneDisk, func() ([]byte, error) { return client.Pushes(offer, "main", true) }},
		"Receive": {server, d, func() ([]byte, error) {
			return server.Receive(aPush(t, nil, api.Change{Name: "refs/heads/x", New: api.ID{1}}))
		}},
	} {
		given := [][]byte{bytes.Clone(offer), bytes.Clone(want)}
		unchanged(t, what, x.r, x.d, func() { isNew(t, what, x.call, write) })
		if !bytes.Equal(given[0], offer) || !bytes.Equal(given[1], want) {
			t.Errorf("%s: what was handed in is changed", what)
		}
	}
}
