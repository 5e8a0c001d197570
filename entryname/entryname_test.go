package entryname_test

import (
	"strings"
	"testing"

	"gitlike/entryname"
)

// TestIs: 3.2, which texts are names.
func TestIs(t *testing.T) {
	for s, want := range map[string]bool{
		"a": true, " ": true, "\n": true, "\xff": true, "é": true, "...": true, ".g": true, ".gita": true, ".Git": true, "git": true, "a.": true, "\\": true,
		strings.Repeat("n", 50): true, strings.Repeat("é", 25): true, strings.Repeat("n", 51): false, strings.Repeat("é", 26): false, strings.Repeat("n", 70000): false,
		"": false, ".": false, "..": false, ".git": false, "/": false, "a/b": false, "a/": false, "/a": false, "\x00": false, "a\x00": false, "\x00a": false,
	} {
		if entryname.Is(s) != want {
			t.Errorf("%.100q: %v", s, !want)
		}
	}
}
