package refs

import (
	"maps"
	"slices"

	"gitlike/api"
)

// ref is one: it stands for an id, or leads to another ref.
type ref struct {
	id     api.ID // nought, if it leads on
	target string // empty, if it does not
	log    []api.LogEntry
}

// table has refs by their names.
type table map[string]ref

// names tells all names, sorted.
func (t table) names() []string { return slices.Sorted(maps.Keys(t)) }

// get tells of a ref by itself.
func (t table) get(name string) (ref, error) {
	if !IsName(name) {
		return ref{}, api.ErrName
	}
	one, there := t[name]
	if !there {
		return ref{}, api.ErrNoRef
	}
	return one, nil
}

// way tells the names from one to the last one to which it leads, both of them too.
func (t table) way(name string) ([]string, error) {
	l := []string{name}
	for t[name].target != "" {
		if len(l) > api.MaxDepth {
			return nil, api.ErrLoop
		}
		name = t[name].target
		l = append(l, name)
	}
	return l, nil
}

func last(way []string) string { return way[len(way)-1] }

// read tells what a name stands for in the end.
func (t table) read(name string) (api.ID, error) {
	way, err := t.way(name)
	if err != nil {
		return api.ID{}, err
	}
	one, there := t[last(way)]
	if !there {
		return api.ID{}, api.ErrNoRef
	}
	return one.id, nil
}

// ways tells the way of each change; no two of them end at one name.
func (t table) ways(l []api.Change) ([][]string, error) {
	var ways [][]string
	ends := map[string]struct{}{}
	for _, c := range l {
		if !IsName(c.Name) {
			return nil, api.ErrName
		}
		way, err := t.way(c.Name)
		if err != nil {
			return nil, err
		}
		ways = append(ways, way)
		ends[last(way)] = struct{}{}
	}
	if len(ends) < len(l) {
		return nil, api.ErrName
	}
	return ways, nil
}

// behind is what the table would be behind those steps. The logs of both share their fronts, each cut short of its spare room: so what is entered in one is not written into the other.
func (t table) behind(steps []step) table {
	next := make(table, len(t))
	for name, one := range t {
		one.log = one.log[:len(one.log):len(one.log)]
		next[name] = one
	}
	for _, s := range steps {
		next.take(s)
	}
	return next
}

// take takes a step.
func (t table) take(s step) {
	one := t[s.name]
	switch s.word {
	case refWord:
		t[s.name] = ref{id: s.id, log: one.log}
	case linkWord:
		t[s.name] = ref{target: s.target, log: one.log}
	case dropWord:
		delete(t, s.name)
	case logWord:
		one.log = append(one.log, s.entry)
		t[s.name] = one
	}
}

// clashes tells whether a name, with a / behind it, is the beginning of another one.
func (t table) clashes() bool {
	for name := range t {
		for i, c := range name {
			if c != '/' {
				continue
			}
			if _, there := t[name[:i]]; there {
				return true
			}
		}
	}
	return false
}

// canBe tells whether calls can make such a table, of steps that can be.
func (t table) canBe() bool {
	for _, one := range t {
		// A log has been begun without a ref.
		if one.target == "" && one.id == (api.ID{}) {
			return false
		}
	}
	return !t.clashes()
}
