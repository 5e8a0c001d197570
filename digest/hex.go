package digest

import (
	"strings"

	"gitlike/api"
)

const (
	hexDigits = "0123456789abcdef"
	hexSize   = 40
)

// Hex writes an id.
func Hex(id api.ID) string {
	text := make([]byte, 0, hexSize)
	for _, x := range id {
		text = append(text, hexDigits[x>>4], hexDigits[x&15])
	}
	return string(text)
}

// Parse reads one.
func Parse(s string) (api.ID, error) {
	if len(s) != hexSize {
		return api.ID{}, api.ErrHex
	}
	var id api.ID
	for i := range len(s) {
		n := strings.IndexByte(hexDigits, s[i])
		if n < 0 {
			return api.ID{}, api.ErrHex
		}
		id[i/2] = id[i/2]<<4 | byte(n)
	}
	return id, nil
}
