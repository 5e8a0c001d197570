package stage

import (
	"iter"

	"gitlike/api"
	"gitlike/entryname"
)

// IsPath tells whether a text is a path.
func IsPath(s string) bool {
	if len(s) > api.MaxPath {
		return false
	}
	for _, name := range parts(s) {
		if !entryname.Is(name) {
			return false
		}
	}
	return true
}

// parts goes through the parts of a path, from its front on: each with the directory in which it is (empty: the root).
func parts(path string) iter.Seq2[string, string] {
	return func(yield func(dir, name string) bool) {
		dir, begin := "", 0
		for i := range len(path) {
			if path[i] != '/' {
				continue
			}
			if !yield(dir, path[begin:i]) {
				return
			}
			dir, begin = path[:i], i+1
		}
		yield(dir, path[begin:])
	}
}
