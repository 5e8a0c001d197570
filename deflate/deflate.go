// Package deflate: zlib streams and sums: see chapter 1.
package deflate

import "math/bits"

// fixedDistanceBits is how many bits each distance has in a block of kind 1.
const fixedDistanceBits = 5

// storedMost is how many bytes a block of kind 0 can have.
const storedMost = 65535

// Deflate makes a zlib stream.
func Deflate(b []byte) []byte {
	body := squeeze(b)
	if stored := store(b); len(stored) < len(body) {
		body = stored
	}
	sum := Adler(b)
	out := append([]byte{0x78, 0x01}, body...)
	return append(out, byte(sum>>24), byte(sum>>16), byte(sum>>8), byte(sum))
}

// store makes blocks of kind 0.
func store(b []byte) []byte {
	var out []byte
	for {
		n := min(len(b), storedMost)
		last := byte(0)
		if n == len(b) {
			last = 1
		}
		out = append(out, last, byte(n), byte(n>>8), ^byte(n), ^byte(n>>8))
		out = append(out, b[:n]...)
		b = b[n:]
		if last == 1 {
			return out
		}
	}
}

// squeeze makes one block of kind 1.
func squeeze(b []byte) []byte {
	w := &writer{}
	w.number(1, 1)
	w.number(1, 2)
	f := newFinder(b)
	for at := 0; at < len(b); {
		length, distance := f.longest(at)
		if isWorth(length, distance) {
			w.repeat(length, distance)
		} else {
			length = 1
			w.symbol(int(b[at]))
		}
		for range length {
			f.add(at)
			at++
		}
	}
	w.symbol(endOfBlock)
	return w.finish()
}

// isWorth tells whether to repeat takes no more bits than the bytes themselves.
func isWorth(length, distance int) bool {
	return length > leastLength || length == leastLength && distance <= 4096
}

// fixedCode tells a symbol's bits in a block of kind 1, as a number, and how many they are.
func fixedCode(symbol int) (value, size int) {
	switch {
	case symbol < 144:
		return 0b0011_0000 + symbol, 8
	case symbol < 256:
		return 0b1_1001_0000 + symbol - 144, 9
	case symbol < 280:
		return symbol - 256, 7
	}
	return 0b1100_0000 + symbol - 280, 8
}

// writer writes bits.
type writer struct {
	out  []byte
	hold int // bits that are not in out yet
	held int // how many, at most 7
}

// number writes a number of so many bits, its lowest one first.
func (w *writer) number(n, size int) {
	w.hold |= n << w.held
	w.held += size
	for w.held >= 8 {
		w.out = append(w.out, byte(w.hold))
		w.hold >>= 8
		w.held -= 8
	}
}

// coded writes the bits of a code, the highest one first.
func (w *writer) coded(value, size int) {
	w.number(int(bits.Reverse16(uint16(value))>>(16-size)), size)
}

func (w *writer) symbol(n int) {
	w.coded(fixedCode(n))
}

// repeat writes a length and a distance.
func (w *writer) repeat(length, distance int) {
	n := lengthCount - 1
	for lengthStart[n] > length {
		n--
	}
	w.symbol(firstLength + n)
	w.number(length-lengthStart[n], lengthBits[n])
	n = distanceCount - 1
	for distanceStart[n] > distance {
		n--
	}
	w.coded(n, fixedDistanceBits)
	w.number(distance-distanceStart[n], distanceBits[n])
}

// finish fills the last byte.
func (w *writer) finish() []byte {
	if w.held > 0 {
		w.number(0, 8-w.held)
	}
	return w.out
}
