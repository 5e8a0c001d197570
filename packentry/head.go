package packentry

import "gitlike/api"

// Kinds of entries beside those of objects: deltas, by how their bases are told.
const (
	ByDistance api.Kind = 6
	ByID       api.Kind = 7
)

const (
	highBit       = 0x80   // of a byte of a size, or of a distance: another one follows
	moreBits      = 7      // so many bits of it are in each byte
	firstBits     = 4      // but in a size's first byte so many: the kind stands above them
	kindMask      = 7      // a kind, when it is moved down
	sizeBytes     = 5      // so many bytes can a kind and a size have
	distanceBytes = 4      // and a distance
	mostDelta     = 200000 // so many bytes can a delta have
)

// MostDistance is the greatest distance: each length of bytes begins where the one ahead ends.
const MostDistance = 1<<moreBits + 1<<(2*moreBits) + 1<<(3*moreBits) + 1<<(4*moreBits) - 1

// Head is what an entry says of itself, ahead of its zlib stream.
type Head struct {
	Kind     api.Kind
	Size     int    // so many bytes come out of the stream
	Distance int    // of ByDistance: so far ahead its base begins
	BaseID   api.ID // of ByID: its base's id
}

// IsDelta tells whether the entry is an object by what it has of another one.
func (h Head) IsDelta() bool { return h.Kind == ByDistance || h.Kind == ByID }

// fits tells whether there is such a kind, and may be so many bytes of it.
func (h Head) fits() bool {
	if h.IsDelta() {
		return h.Size <= mostDelta
	}
	return h.Kind >= api.Commit && h.Kind <= api.Tag && h.Size <= api.MaxBlob
}

// write writes a head.
func (h Head) write() []byte {
	out := appendKind(nil, h.Kind, h.Size)
	switch h.Kind {
	case ByDistance:
		out = appendDistance(out, h.Distance, 0)
	case ByID:
		out = append(out, h.BaseID[:]...)
	}
	return out
}

// readHead reads a head, and tells what stands behind it.
func readHead(b []byte) (h Head, rest []byte, err error) {
	h.Kind, h.Size, rest, err = readKind(b)
	if err != nil || !h.fits() {
		return Head{}, nil, api.ErrPack
	}
	switch h.Kind {
	case ByDistance:
		h.Distance, rest, err = readDistance(rest)
	case ByID:
		n := copy(h.BaseID[:], rest)
		if n < len(h.BaseID) {
			return Head{}, nil, api.ErrPack
		}
		rest = rest[n:]
	}
	return h, rest, err
}

// appendKind writes a kind and a size.
func appendKind(out []byte, kind api.Kind, size int) []byte {
	next := byte(kind)<<firstBits | byte(size)&(1<<firstBits-1)
	for size >>= firstBits; size > 0; size >>= moreBits {
		out = append(out, next|highBit)
		next = byte(size) &^ highBit
	}
	return append(out, next)
}

// readKind reads a kind and a size, and tells what stands behind them.
func readKind(b []byte) (kind api.Kind, size int, rest []byte, err error) {
	shift := 0
	for i, x := range b[:min(len(b), sizeBytes)] {
		if i == 0 {
			kind = api.Kind(x >> firstBits & kindMask)
			size, shift = int(x&(1<<firstBits-1)), firstBits
		} else {
			size |= int(x&^highBit) << shift
			shift += moreBits
		}
		if x >= highBit {
			continue
		}
		if x == 0 && i > 0 {
			break
		}
		return kind, size, b[i+1:], nil
	}
	return 0, 0, nil, api.ErrPack
}

// appendDistance writes a distance, the highest bits first; in its last byte more is set.
func appendDistance(out []byte, n int, more byte) []byte {
	if n >= highBit {
		out = appendDistance(out, n>>moreBits-1, highBit)
	}
	return append(out, byte(n)&^highBit|more)
}

// readDistance reads a distance, and tells what stands behind it.
func readDistance(b []byte) (n int, rest []byte, err error) {
	for i, x := range b[:min(len(b), distanceBytes)] {
		n = n<<moreBits | int(x&^highBit)
		if x < highBit {
			return n, b[i+1:], nil
		}
		n++
	}
	return 0, nil, api.ErrPack
}
