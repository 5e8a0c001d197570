package delta

import "slices"

const (
	highBit   = 0x80    // of a step: it is a copy; of a size's byte: another one follows
	mostOwn   = 127     // so many bytes of its own can a step have
	emptyCopy = 1 << 16 // the length of a copy that tells the length 0
)

// A copy's offset and length are one number here: the length stands above the four bytes of the offset. So each bit of a copy's first byte, but the highest one, tells whether one byte of that number follows.
const (
	placeBytes  = 7
	lengthShift = 32
	offsetMask  = 1<<lengthShift - 1
)

// readStep tells what the first step of b puts out, and how many bytes the step has: none, if there is no step for this base.
func readStep(base, b []byte) (chunk []byte, used int) {
	if b[0] >= highBit {
		return readCopy(base, b)
	}
	used = 1 + int(b[0])
	if b[0] == 0 || used > len(b) {
		return nil, 0
	}
	return b[1:used], used
}

// readCopy is readStep for a copy.
func readCopy(base, b []byte) (chunk []byte, used int) {
	var place uint64
	used = 1
	for i := range placeBytes {
		if b[0]>>i&1 == 0 {
			continue
		}
		if used == len(b) {
			return nil, 0
		}
		place |= uint64(b[used]) << (8 * i)
		used++
	}
	from, length := place&offsetMask, place>>lengthShift
	if length == 0 {
		length = emptyCopy
	}
	if from+length > uint64(len(base)) {
		return nil, 0
	}
	return base[from : from+length], used
}

// copyStep writes a copy. (One of no bytes would be read as another; but it is longer than what it stands for, and so is not taken.)
func copyStep(from, length int) []byte {
	place := uint64(from) | uint64(length)<<lengthShift
	step := []byte{highBit}
	for i := range placeBytes {
		if b := byte(place >> (8 * i)); b != 0 {
			step[0] |= 1 << i
			step = append(step, b)
		}
	}
	return step
}

// appendOwn writes steps with bytes of their own.
func appendOwn(out, own []byte) []byte {
	for chunk := range slices.Chunk(own, mostOwn) {
		out = append(out, byte(len(chunk)))
		out = append(out, chunk...)
	}
	return out
}
