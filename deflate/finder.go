package deflate

const (
	leastLength  = 3     // a length is at least that
	mostLength   = 258   // and at most that
	mostDistance = 32768 // a distance is at most that
	tries        = 128   // so many places are looked at: more than 100, so that a block of 100 bytes is found again
)

// finder finds what stands again. Places whose first three bytes have the same hash are a chain, the last one first.
type finder struct {
	b     []byte
	chain []int // by hash: the chain's last place, and 1; 0: there is none
	ahead []int // by place, round and round: the one ahead of it in its chain, likewise
}

func newFinder(b []byte) *finder {
	size := 1
	for size < len(b) && size < mostDistance {
		size *= 2
	}
	return &finder{b, make([]int, size), make([]int, size)}
}

// hash is that of the three bytes at a place.
func (f *finder) hash(at int) int {
	n := uint32(f.b[at]) | uint32(f.b[at+1])<<8 | uint32(f.b[at+2])<<16
	return int(n*0x9e3779b1>>16) % len(f.chain)
}

// add lets a place be found.
func (f *finder) add(at int) {
	if len(f.b)-at < leastLength {
		return
	}
	h := f.hash(at)
	f.ahead[at%len(f.ahead)] = f.chain[h]
	f.chain[h] = at + 1
}

// longest finds the longest bytes ahead that stand at a place again, and of these the nearest ones; none: 0.
func (f *finder) longest(at int) (length, distance int) {
	most := min(mostLength, len(f.b)-at)
	if most < leastLength {
		return 0, 0
	}
	place := f.chain[f.hash(at)] - 1
	for left := tries; left > 0 && place >= 0 && at-place <= mostDistance && length < most; left-- {
		if n := f.common(place, at, most); n > length {
			length, distance = n, at-place
		}
		place = f.ahead[place%len(f.ahead)] - 1
	}
	return length, distance
}

// common counts how many bytes two places have in common, up to most.
func (f *finder) common(a, b, most int) int {
	n := 0
	for n < most && f.b[a+n] == f.b[b+n] {
		n++
	}
	return n
}
