package repo_test

import (
	"slices"
	"strings"

	"gitlike/api"
	"gitlike/graph"
	"gitlike/pack"
	"gitlike/refs"
	"gitlike/wire"
)

// What follows is chapter 14, word by word.

// parcel is what a pack must have, and what its deltas may stand on beside.
type parcel struct {
	sent  []api.ID
	bases []api.Object
}

func (m *model) isWhole(id api.ID) bool {
	_, err := graph.Closure(m.all(), []api.ID{id})
	return err == nil
}

// parcelOf is what is in a closure, and not in that of those of other ids that are whole.
func (m *model) parcelOf(closure, other []api.ID) parcel {
	other = slices.DeleteFunc(slices.Clone(other), func(id api.ID) bool { return !m.isWhole(id) })
	had, _ := graph.Closure(m.all(), other)
	p := parcel{sent: without(closure, had)}
	for _, id := range had {
		p.bases = append(p.bases, m.objects[id])
	}
	return p
}

func (m *model) offer() api.Offer {
	to, _ := m.refs.Target("HEAD")
	return api.Offer{Head: to, Refs: slices.DeleteFunc(m.refs.List(""), func(r api.Ref) bool {
		return !strings.HasPrefix(r.Name, "refs/heads/") && !strings.HasPrefix(r.Name, "refs/tags/")
	})}
}

func (m *model) Offer() ([]byte, error) { return wire.WriteOffer(m.offer()) }

func (m *model) Wants(offer []byte) ([]byte, error) {
	o, err := wire.ReadOffer(offer)
	if err != nil {
		return nil, err
	}
	var want []api.ID
	for _, r := range o.Refs {
		if !m.isWhole(r.ID) && !slices.Contains(want, r.ID) {
			want = append(want, r.ID)
		}
	}
	if len(want) == 0 {
		return nil, api.ErrNothing
	}
	have := m.refIDs()
	sortIDs(have)
	return wire.WriteWant(want, slices.Compact(have))
}

func (m *model) Upload(want []byte) (parcel, error) {
	wanted, have, err := wire.ReadWant(want)
	if err != nil {
		return parcel{}, err
	}
	for _, id := range wanted {
		if !slices.ContainsFunc(m.offer().Refs, func(r api.Ref) bool { return r.ID == id }) {
			return parcel{}, api.ErrWant
		}
	}
	closure, err := graph.Closure(m.all(), wanted)
	if err != nil {
		return parcel{}, err
	}
	return m.parcelOf(closure, have), nil
}

func (m *model) addPack(b []byte) error {
	if len(b) == 0 {
		return nil
	}
	l, err := pack.Read(b, m.all())
	if err != nil {
		return err
	}
	m.put(l...)
	return nil
}

func (m *model) Fetched(remote string, offer, pack []byte, who api.Person) error {
	if !refs.IsName("refs/remotes/" + remote + "/x") {
		return api.ErrName
	}
	o, err := wire.ReadOffer(offer)
	if err != nil {
		return err
	}
	if err := m.addPack(pack); err != nil {
		return err
	}
	var l []api.Change
	for _, r := range o.Refs {
		if !m.isWhole(r.ID) {
			return api.ErrSent
		}
		if strings.HasPrefix(r.Name, "refs/heads/") {
			name := "refs/remotes/" + remote + "/" + r.Name[len("refs/heads/"):]
			if was, _ := m.refs.Read(name); was != r.ID {
				l = append(l, api.Change{Name: name, Old: was, New: r.ID})
			}
		}
		if strings.HasPrefix(r.Name, "refs/tags/") {
			if _, err := m.refs.Read(r.Name); err != nil {
				l = append(l, api.Change{Name: r.Name, New: r.ID})
			}
		}
	}
	return m.refs.Update(l, who, "fetch")
}

func (m *model) Pushes(offer []byte, branch string, force bool) (api.Change, parcel, error) {
	none := api.Change{}
	name := "refs/heads/" + branch
	if !refs.IsName(name) {
		return none, parcel{}, api.ErrName
	}
	o, err := wire.ReadOffer(offer)
	if err != nil {
		return none, parcel{}, err
	}
	there, err := m.refs.Read(name)
	if err != nil {
		return none, parcel{}, api.ErrNoRef
	}
	var offered api.ID
	var ids []api.ID
	for _, r := range o.Refs {
		ids = append(ids, r.ID)
		if r.Name == name {
			offered = r.ID
		}
	}
	if offered == there {
		return none, parcel{}, api.ErrNothing
	}
	closure, err := graph.Closure(m.all(), []api.ID{there})
	if err != nil {
		return none, parcel{}, err
	}
	if offered != nought && !force && !slices.Contains(closure, offered) {
		return none, parcel{}, api.ErrForward
	}
	return api.Change{Name: name, Old: offered, New: there}, m.parcelOf(closure, ids), nil
}

// receive does one change that was pushed.
func (m *model) receive(x api.Change) error {
	if !strings.HasPrefix(x.Name, "refs/heads/") && !strings.HasPrefix(x.Name, "refs/tags/") {
		return api.ErrName
	}
	if to, _ := m.refs.Target("HEAD"); x.New == nought && to == x.Name {
		return api.ErrBranch
	}
	if x.New != nought && !m.isWhole(x.New) {
		return api.ErrSent
	}
	return m.refs.Update([]api.Change{x}, nobody, "push")
}

func (m *model) Receive(push []byte) ([]byte, error) {
	l, pack, err := wire.ReadPush(push)
	if err != nil {
		return nil, err
	}
	err = m.addPack(pack)
	var status []api.Status
	for _, x := range l {
		s := api.Status{Name: x.Name, Err: api.Tell(err)}
		if err == nil {
			s.Err = api.Tell(m.receive(x))
		}
		status = append(status, s)
	}
	return wire.WriteStatus(status)
}
