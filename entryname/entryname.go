// Package entryname: the names of a tree's entries, of which paths are made too: see 3.2.
package entryname

import "strings"

const maxBytes = 50

// Is tells whether a text is such a name.
func Is(s string) bool {
	switch s {
	case "", ".", "..", ".git":
		return false
	}
	return len(s) <= maxBytes && !strings.ContainsAny(s, "/\x00")
}
