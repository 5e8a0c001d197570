package repo

import "gitlike/api"

// Offer answers what the repository has, in bytes.
func (r *Repo) Offer() ([]byte, error) { return nil, nil }

// Upload answers what a client wants, in bytes: a pack.
func (r *Repo) Upload(want []byte) ([]byte, error) { return nil, nil }

// Receive takes what a client sends, in bytes: what became of it.
func (r *Repo) Receive(push []byte) ([]byte, error) { return nil, nil }

// Wants writes what a repository wants, by what a server offers.
func (r *Repo) Wants(offer []byte) ([]byte, error) { return nil, nil }

// Fetched takes a pack, and sets the refs of a remote.
func (r *Repo) Fetched(remote string, offer, pack []byte, who api.Person) error { return nil }

// Pushes writes what a repository sends, to set a server's branch.
func (r *Repo) Pushes(offer []byte, branch string, force bool) ([]byte, error) { return nil, nil }
