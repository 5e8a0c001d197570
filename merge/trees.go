package merge

import (
	"cmp"
	"maps"
	"slices"
	"strings"

	"gitlike/api"
	"gitlike/diff"
	"gitlike/idorder"
	"gitlike/object"
	"gitlike/stage"
)

// least: files that are so similar are one file that was moved.
const least = 50

// Stages of entries that are in conflict.
const (
	stageBase = 1 + iota
	stageOurs
	stageTheirs
)

// refuse is the error of files that are none, or are not merged.
func refuse(l []api.Entry) error {
	if _, err := stage.Write(l); err != nil {
		return err
	}
	if slices.ContainsFunc(l, isUnmerged) {
		return api.ErrMerge
	}
	return nil
}

func isUnmerged(e api.Entry) bool { return e.Stage != 0 }

// side is what became of base on one side.
type side struct {
	of    map[string]api.Entry // files of base that are there still, by the paths that they had
	added []api.Entry          // the others
}

// follow tells what became of base.
func follow(base, now []api.Entry, blobs []api.Object) side {
	// Files that are added do no harm there: none has a path that one of base had. And no error is left, since both lists were looked at.
	s := side{of: byPath(now)}
	turns, _ := diff.Turns(base, now, blobs, least)
	for _, t := range turns {
		switch {
		case t.From.Path == "":
			s.added = append(s.added, t.To)
		case t.To.Path != "":
			s.of[t.From.Path] = t.To
		}
	}
	return s
}

func byPath(l []api.Entry) map[string]api.Entry {
	m := map[string]api.Entry{}
	for _, e := range l {
		m[e.Path] = e
	}
	return m
}

// byID is the bytes of blobs. What is no blob has no place among files.
func byID(blobs []api.Object) map[api.ID][]byte {
	m := map[api.ID][]byte{}
	for _, o := range blobs {
		if id, err := object.ID(o); err == nil && o.Kind == api.Blob {
			m[id] = o.Data
		}
	}
	return m
}

// merging is a merge of trees, as far as it has come.
type merging struct {
	texts   map[api.ID][]byte // that were handed in
	made    map[api.ID][]byte // that are new
	entries []api.Entry
}

// mergeFile is what becomes of a file of base.
func (m *merging) mergeFile(f api.Entry, ours, theirs side) []api.Entry {
	o, inOurs := ours.of[f.Path]
	t, inTheirs := theirs.of[f.Path]
	switch {
	case inOurs && inTheirs:
		return m.mergeBoth(three[api.Entry]{f, o, t})
	case inOurs:
		return mergeLeft(f, o, stageOurs)
	case inTheirs:
		return mergeLeft(f, t, stageTheirs)
	}
	return nil
}

// mergeBoth is what becomes of a file that is there on both sides. What is in it comes last: a text is new only where nothing is in conflict.
func (m *merging) mergeBoth(f three[api.Entry]) []api.Entry {
	place, agreed := choose(f, samePath)
	if !agreed {
		return inConflict(f)
	}
	f.base.Path, f.ours.Path, f.theirs.Path = place.Path, place.Path, place.Path
	kind, agreed := choose(f, sameMode)
	if !agreed {
		return inConflict(f)
	}
	merged, agreed := choose(f, sameID)
	if !agreed {
		merged, agreed = m.mergeTexts(f)
	}
	if !agreed {
		return inConflict(f)
	}
	merged.Mode = kind.Mode
	return []api.Entry{merged}
}

func samePath(x, y api.Entry) bool { return x.Path == y.Path }

func sameMode(x, y api.Entry) bool { return x.Mode == y.Mode }

func sameID(x, y api.Entry) bool { return x.ID == y.ID }

// inConflict is a file for someone to choose.
func inConflict(f three[api.Entry]) []api.Entry {
	return []api.Entry{staged(f.base, stageBase), staged(f.ours, stageOurs), staged(f.theirs, stageTheirs)}
}

func staged(e api.Entry, number int) api.Entry {
	e.Stage = number
	return e
}

// mergeTexts is ours, with what the texts of all three come to.
func (m *merging) mergeTexts(f three[api.Entry]) (merged api.Entry, agreed bool) {
	var texts [3][]byte
	for i, e := range []api.Entry{f.base, f.ours, f.theirs} {
		text, there := m.texts[e.ID]
		if !there || e.Mode == api.LinkMode {
			return merged, false
		}
		texts[i] = text
	}
	text, conflicts := Texts(texts[0], texts[1], texts[2], "ours", "theirs")
	id, err := object.ID(api.Object{Kind: api.Blob, Data: text})
	if conflicts > 0 || err != nil {
		return merged, false
	}
	m.made[id] = text
	merged = f.ours
	merged.ID, merged.Size = id, len(text)
	return merged, true
}

// mergeLeft is what becomes of a file that one side dropped: it is in conflict, unless the other one left it alone.
func mergeLeft(f, e api.Entry, number int) []api.Entry {
	if samePath(f, e) && sameMode(f, e) && sameID(f, e) {
		return nil
	}
	f.Path = e.Path
	return []api.Entry{staged(f, stageBase), staged(e, number)}
}

// mergeAdded is what becomes of new files.
func mergeAdded(ours, theirs []api.Entry) []api.Entry {
	inOurs, inTheirs := byPath(ours), byPath(theirs)
	var l []api.Entry
	for _, o := range ours {
		t, there := inTheirs[o.Path]
		if there && !(sameMode(o, t) && sameID(o, t)) {
			l = append(l, staged(o, stageOurs), staged(t, stageTheirs))
		} else {
			l = append(l, o)
		}
	}
	for _, t := range theirs {
		if _, there := inOurs[t.Path]; !there {
			l = append(l, t)
		}
	}
	return l
}

// answer is what the merge comes to: ErrConflict, if that is no index.
func (m *merging) answer() (api.Merged, error) {
	if _, err := stage.Write(m.entries); err != nil {
		return api.Merged{}, api.ErrConflict
	}
	slices.SortFunc(m.entries, byPlace)
	merged := api.Merged{Entries: m.entries}
	for _, id := range slices.SortedFunc(maps.Keys(m.made), idorder.Compare) {
		merged.Blobs = append(merged.Blobs, api.Object{Kind: api.Blob, Data: m.made[id]})
	}
	return merged, nil
}

func byPlace(x, y api.Entry) int {
	return cmp.Or(strings.Compare(x.Path, y.Path), cmp.Compare(x.Stage, y.Stage))
}
