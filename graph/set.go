package graph

import "gitlike/api"

// set is ids, each once.
type set map[api.ID]struct{}

func setOf(ids ...api.ID) set {
	s := set{}
	for _, id := range ids {
		s[id] = struct{}{}
	}
	return s
}

func (s set) has(id api.ID) bool {
	_, there := s[id]
	return there
}

// less is those of s that are not in t.
func (s set) less(t set) set {
	left := set{}
	for id := range s {
		if !t.has(id) {
			left[id] = struct{}{}
		}
	}
	return left
}

// and is those that are in both.
func (s set) and(t set) set { return s.less(s.less(t)) }
