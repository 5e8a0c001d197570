package pack

import (
	"bytes"
	"math"
	"slices"

	"gitlike/api"
	"gitlike/idorder"
)

// idxHead is what an index begins with: its name, and the number 2.
const idxHead = "\xfftOc\x00\x00\x00\x02"

const (
	countsBytes = 256 * numberBytes                      // so many bytes have the counts, by the ids' first bytes
	placeBytes  = idBytes + 2*numberBytes                // and a place: its id, its CRC, its offset
	idxBytes    = len(idxHead) + countsBytes + 2*idBytes // and an index without places
	mostOffset  = math.MaxInt32
)

// WriteIdx makes an index.
func WriteIdx(l []api.Place, sum api.ID) ([]byte, error) {
	if len(l) > api.MaxObjects {
		return nil, api.ErrIdx
	}
	sorted := slices.Clone(l)
	sortPlaces(sorted)
	for i, p := range sorted {
		if p.Offset < 0 || p.Offset > mostOffset || i > 0 && p.ID == sorted[i-1].ID {
			return nil, api.ErrIdx
		}
	}
	out := appendCounts([]byte(idxHead), sorted)
	for _, p := range sorted {
		out = append(out, p.ID[:]...)
	}
	for _, p := range sorted {
		out = appendNumber(out, p.CRC)
	}
	for _, p := range sorted {
		out = appendNumber(out, uint32(p.Offset))
	}
	return withSum(append(out, sum[:]...)), nil
}

// appendCounts writes how many ids have a first byte that is at most 0, at most 1, and so on.
func appendCounts(out []byte, sorted []api.Place) []byte {
	n := 0
	for first := range 256 {
		for n < len(sorted) && int(sorted[n].ID[0]) == first {
			n++
		}
		out = appendNumber(out, uint32(n))
	}
	return out
}

// ReadIdx reads one: the places, and the pack's sum.
func ReadIdx(b []byte) ([]api.Place, api.ID, error) {
	if len(b) < idxBytes {
		return nil, api.ID{}, api.ErrIdx
	}
	l, sum := takePlaces(b)
	// All else is not read but written: so there is no second way to spell an index.
	if again, err := WriteIdx(l, sum); err != nil || !bytes.Equal(again, b) {
		return nil, api.ID{}, api.ErrIdx
	}
	return l, sum, nil
}

// takePlaces takes the places, and the pack's sum, out of bytes that are as long as an index at least.
func takePlaces(b []byte) ([]api.Place, api.ID) {
	n := (len(b) - idxBytes) / placeBytes
	ids := b[len(idxHead)+countsBytes:]
	crcs := ids[n*idBytes:]
	offsets := crcs[n*numberBytes:]
	sum := readID(offsets[n*numberBytes:])
	l := make([]api.Place, n)
	for i := range l {
		l[i].ID = readID(ids[i*idBytes:])
		l[i].CRC = readNumber(crcs[i*numberBytes:])
		l[i].Offset = int(readNumber(offsets[i*numberBytes:]))
	}
	return l, sum
}

// Find looks for an id in an index.
func Find(b []byte, id api.ID) (int, error) {
	l, _, err := ReadIdx(b)
	if err != nil {
		return 0, err
	}
	i, there := slices.BinarySearchFunc(l, id, func(p api.Place, id api.ID) int { return idorder.Compare(p.ID, id) })
	if !there {
		return 0, api.ErrMissing
	}
	return l[i].Offset, nil
}
