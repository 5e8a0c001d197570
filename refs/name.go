package refs

import (
	"strings"

	"gitlike/api"
)

const (
	headName  = "HEAD"
	under     = "refs" // the first part of all other names
	firstRune = '!'    // of those that a name may have
	lastRune  = '~'
	barred    = `~^:?*[\`
)

// IsName tells whether a text is the name of a ref.
func IsName(s string) bool {
	if s == headName {
		return true
	}
	return len(s) <= api.MaxName && hasParts(s) && hasRunes(s) &&
		!strings.Contains(s, "..") && !strings.Contains(s, "@{") && !strings.HasSuffix(s, ".")
}

// hasParts tells whether a text consists of parts that a name may have.
func hasParts(s string) bool {
	parts := strings.Split(s, "/")
	for _, p := range parts {
		if p == "" || strings.HasPrefix(p, ".") || strings.HasSuffix(p, ".lock") {
			return false
		}
	}
	return parts[0] == under && len(parts) > 1
}

// hasRunes tells whether a text consists of runes that a name may have: bytes that are none count as one above them all.
func hasRunes(s string) bool {
	for _, c := range s {
		if c < firstRune || c > lastRune || strings.ContainsRune(barred, c) {
			return false
		}
	}
	return true
}
