package stage

import (
	"cmp"
	"slices"
	"strings"

	"gitlike/api"
)

const lastStage = 3

// inOrder is entries in their order; Write's error, if they are not right.
func inOrder(l []api.Entry) ([]api.Entry, error) {
	for _, e := range l {
		if !IsPath(e.Path) {
			return nil, api.ErrPath
		}
	}
	if len(l) > api.MaxEntries {
		return nil, api.ErrStage
	}
	sorted := slices.SortedFunc(slices.Values(l), byOrder)
	if !fieldsAreRight(sorted) || !stagesAreRight(sorted) {
		return nil, api.ErrStage
	}
	if pathsClash(sorted) {
		return nil, api.ErrPath
	}
	return sorted, nil
}

// byOrder compares two entries by their places in an index.
func byOrder(a, b api.Entry) int {
	return cmp.Or(strings.Compare(a.Path, b.Path), cmp.Compare(a.Stage, b.Stage))
}

// fieldsAreRight tells whether each entry by itself is right, but for its path.
func fieldsAreRight(l []api.Entry) bool {
	for _, e := range l {
		if !isMode(e.Mode) || e.Size < 0 || e.Size > api.MaxBlob || e.Stage < 0 || e.Stage > lastStage {
			return false
		}
	}
	return true
}

// isMode tells whether a mode is a file's.
func isMode(m api.Mode) bool {
	switch m {
	case api.FileMode, api.ExecMode, api.LinkMode:
		return true
	}
	return false
}

// stagesAreRight tells whether no path has a stage twice, or the stage 0 and others. In order, the entries of a path stand side by side, and one with the stage 0 is the first of them.
func stagesAreRight(sorted []api.Entry) bool {
	for i, e := range sorted {
		if i == 0 || e.Path != sorted[i-1].Path {
			continue
		}
		if before := sorted[i-1].Stage; before == 0 || before == e.Stage {
			return false
		}
	}
	return true
}

// pathsClash tells whether one path is a directory of another. The two need not stand side by side: a.b is between a and a/b.
func pathsClash(l []api.Entry) bool {
	files := map[string]struct{}{}
	for _, e := range l {
		files[e.Path] = struct{}{}
	}
	for _, e := range l {
		for dir := range parts(e.Path) {
			if _, there := files[dir]; there {
				return true
			}
		}
	}
	return false
}
