// Package idorder: ids in the order of their bytes.
package idorder

import (
	"bytes"
	"maps"
	"slices"

	"gitlike/api"
)

// Compare is below 0, if x stands ahead of y, above 0, if it stands behind it.
func Compare(x, y api.ID) int { return bytes.Compare(x[:], y[:]) }

// Sorted is a set of ids, rising.
func Sorted(set map[api.ID]struct{}) []api.ID {
	return slices.SortedFunc(maps.Keys(set), Compare)
}
