package delta

import "gitlike/api"

const (
	sizeBits  = 7 // so many bits of a size are in each of its bytes
	sizeBytes = 5 // so many bytes can a size have
)

// appendSize writes a size.
func appendSize(out []byte, n int) []byte {
	for ; n >= highBit; n >>= sizeBits {
		out = append(out, byte(n)|highBit)
	}
	return append(out, byte(n))
}

// readSizes reads the two sizes that a delta begins with, and tells what stands behind them.
func readSizes(delta []byte) (base, target int, steps []byte, err error) {
	base, rest, err := readSize(delta)
	if err != nil {
		return 0, 0, nil, err
	}
	target, steps, err = readSize(rest)
	if err != nil {
		return 0, 0, nil, err
	}
	return base, target, steps, nil
}

// readSize reads a size, and tells what stands behind it.
func readSize(b []byte) (n int, rest []byte, err error) {
	for i, x := range b[:min(len(b), sizeBytes)] {
		n |= int(x&^highBit) << (sizeBits * i)
		if x >= highBit {
			continue
		}
		if x == 0 && i > 0 {
			break
		}
		return n, b[i+1:], nil
	}
	return 0, nil, api.ErrDelta
}
