package diff

import (
	"bytes"
	"cmp"
	"slices"
	"strings"

	"gitlike/api"
	"gitlike/stage"
)

// refuse is the error of files that are none, or are not merged.
func refuse(was, now []api.Entry) error {
	if _, err := stage.Write(was); err != nil {
		return err
	}
	if _, err := stage.Write(now); err != nil {
		return err
	}
	if slices.ContainsFunc(was, isUnmerged) || slices.ContainsFunc(now, isUnmerged) {
		return api.ErrMerge
	}
	return nil
}

func isUnmerged(e api.Entry) bool { return e.Stage != 0 }

// changed is the files that have their paths still, but are others.
func changed(was, now []api.Entry) []api.Turn {
	before := map[string]api.Entry{}
	for _, e := range was {
		before[e.Path] = e
	}
	var l []api.Turn
	for _, e := range now {
		if f, there := before[e.Path]; there && (f.Mode != e.Mode || f.ID != e.ID) {
			l = append(l, api.Turn{From: f, To: e})
		}
	}
	return l
}

// lone is the files whose paths are not among others, by their paths.
func lone(l, others []api.Entry) []api.Entry {
	paths := map[string]struct{}{}
	for _, e := range others {
		paths[e.Path] = struct{}{}
	}
	var left []api.Entry
	for _, e := range l {
		if _, there := paths[e.Path]; !there {
			left = append(left, e)
		}
	}
	slices.SortFunc(left, byPath)
	return left
}

func byPath(x, y api.Entry) int { return strings.Compare(x.Path, y.Path) }

// pair tells which of the files that are gone became which of the new ones. Both are in the order of their paths: so, of pairs with one rank, the first one that is met is the first one to be taken.
func pair(gone, fresh []api.Entry, blobs []api.Object, least int) []api.Turn {
	if len(gone) == 0 || len(fresh) == 0 {
		return nil // and no id of a blob has to be worked out
	}
	ranks := compare(withTexts(gone, fresh, blobs))
	var l []api.Turn
	for rank := sameID; min(rank, whole) >= least; rank-- {
		for i, row := range ranks {
			if k := bytes.IndexByte(row, byte(rank)); k >= 0 {
				l = append(l, api.Turn{From: gone[i], To: fresh[k], Similarity: min(rank, whole)})
				take(ranks, i, k)
			}
		}
	}
	return l
}

// take lets no more pairs be of two files.
func take(ranks [][]byte, gone, fresh int) {
	clear(ranks[gone])
	for _, row := range ranks {
		row[fresh] = 0
	}
}

// unpaired is the files that are in no pair.
func unpaired(gone, fresh []api.Entry, pairs []api.Turn) []api.Turn {
	var from, to []api.Entry
	for _, p := range pairs {
		from, to = append(from, p.From), append(to, p.To)
	}
	var l []api.Turn
	for _, e := range lone(gone, from) {
		l = append(l, api.Turn{From: e})
	}
	for _, e := range lone(fresh, to) {
		l = append(l, api.Turn{To: e})
	}
	return l
}

// byPlace compares two turns by their places. No two have one path for that: what is gone has none of those that files have now.
func byPlace(x, y api.Turn) int {
	return strings.Compare(cmp.Or(x.To.Path, x.From.Path), cmp.Or(y.To.Path, y.From.Path))
}
