package store_test

import (
	"crypto/sha1"
	"encoding/binary"
	"slices"
	"strconv"
	"strings"
	"testing"

	"gitlike/api"
	"gitlike/delta"
	"gitlike/packentry"
)

// chain is a pack of n deltas, each of which stands on another, and its texts: on the entry ahead of it, by its distance; or on the one behind it, by its id.
func chain(t *testing.T, byID bool, n int) ([]byte, []string) {
	t.Helper()
	var texts []string
	for i := range n + 1 {
		texts = append(texts, strings.Repeat("a line\n", 10+i)+strconv.Itoa(i))
	}
	entries := [][]byte{packentry.Make(packentry.Head{Kind: api.Blob}, []byte(texts[0]))}
	for i := 1; i <= n; i++ {
		h := packentry.Head{Kind: packentry.ByDistance, Distance: len(entries[i-1])}
		if byID {
			h = packentry.Head{Kind: packentry.ByID, BaseID: idOf(texts[i-1])}
		}
		entries = append(entries, packentry.Make(h, delta.Make([]byte(texts[i-1]), []byte(texts[i]))))
	}
	if byID {
		slices.Reverse(entries)
		slices.Reverse(texts)
	}
	out := binary.BigEndian.AppendUint32([]byte("PACK\x00\x00\x00\x02"), uint32(n+1))
	out = slices.Concat(out, slices.Concat(entries...))
	sum := sha1.Sum(out)
	return append(out, sum[:]...), texts
}
