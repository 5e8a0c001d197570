package pack

import (
	"bytes"

	"gitlike/api"
	"gitlike/digest"
)

// packHead is what a pack begins with: its name, and the number 2. How many entries there are stands behind it.
const packHead = "PACK\x00\x00\x00\x02"

const (
	numberBytes = 4                           // so many bytes has a number
	idBytes     = 20                          // and an id, or a SHA-1
	firstEntry  = len(packHead) + numberBytes // here the first entry begins, if there is one
)

// appendNumber writes a number, the highest byte first.
func appendNumber(out []byte, n uint32) []byte {
	return append(out, byte(n>>24), byte(n>>16), byte(n>>8), byte(n))
}

// readNumber reads the number that b begins with.
func readNumber(b []byte) uint32 {
	return uint32(b[0])<<24 | uint32(b[1])<<16 | uint32(b[2])<<8 | uint32(b[3])
}

// readID reads the id that b begins with.
func readID(b []byte) (id api.ID) {
	copy(id[:], b)
	return id
}

// withSum writes the SHA-1 of all bytes behind them.
func withSum(out []byte) []byte {
	sum := digest.Sum(out)
	return append(out, sum[:]...)
}

// unframe takes a pack's SHA-1 off, and tells how many entries there must be in what is left.
func unframe(b []byte) (body []byte, count int, err error) {
	if len(b) < firstEntry+idBytes || !bytes.HasPrefix(b, []byte(packHead)) {
		return nil, 0, api.ErrPack
	}
	told := readNumber(b[len(packHead):])
	body = b[:len(b)-idBytes]
	if told > api.MaxObjects || digest.Sum(body) != readID(b[len(body):]) {
		return nil, 0, api.ErrPack
	}
	return body, int(told), nil
}
