// Package idwalk: a walk through ids and all that they name.
package idwalk

import (
	"slices"

	"gitlike/api"
)

// Through goes through ids and what they name, and so on: an id, then what it names, one behind the other, each with all below it, none twice. It tells which it has met, or the first error.
//
// What is still to come stands in a list, the next one last: however long a row of names is, no calls stand one in another.
func Through(names func(id api.ID) ([]api.ID, error), from ...api.ID) (map[api.ID]struct{}, error) {
	met := map[api.ID]struct{}{}
	waiting := backwards(from...)
	for len(waiting) > 0 {
		id := waiting[len(waiting)-1]
		waiting = waiting[:len(waiting)-1]
		if _, again := met[id]; again {
			continue
		}
		met[id] = struct{}{}
		named, err := names(id)
		if err != nil {
			return nil, err
		}
		waiting = append(waiting, backwards(named...)...)
	}
	return met, nil
}

// backwards is ids in a new list, the first one last.
func backwards(ids ...api.ID) []api.ID {
	l := slices.Clone(ids)
	slices.Reverse(l)
	return l
}
