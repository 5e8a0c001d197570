package digest

import "math/bits"

const (
	blockSize  = 64
	kindCount  = 4
	kindRounds = 20
	roundCount = kindCount * kindRounds
)

// words are the five numbers that go from block to block.
type words [5]uint32

// kind is what a fourth of the rounds have of their own.
type kind struct {
	mix  func(b, c, d uint32) uint32
	more uint32
}

func kinds() [kindCount]kind {
	return [kindCount]kind{
		{choice, 0x5a827999},
		{parity, 0x6ed9eba1},
		{majority, 0x8f1bbcdc},
		{parity, 0xca62c1d6},
	}
}

func choice(b, c, d uint32) uint32 { return b&c | ^b&d }

func parity(b, c, d uint32) uint32 { return b ^ c ^ d }

func majority(b, c, d uint32) uint32 { return b&c | b&d | c&d }

// with is the sum with one block more.
func (h words) with(block [blockSize]byte) words {
	each := spread(block)
	a, b, c, d, e := h[0], h[1], h[2], h[3], h[4]
	for i, k := range kinds() {
		for _, w := range each[i*kindRounds : (i+1)*kindRounds] {
			t := bits.RotateLeft32(a, 5) + k.mix(b, c, d) + e + k.more + w
			a, b, c, d, e = t, a, bits.RotateLeft32(b, 30), c, d
		}
	}
	return words{h[0] + a, h[1] + b, h[2] + c, h[3] + d, h[4] + e}
}

// spread makes a number for each round from a block.
func spread(block [blockSize]byte) [roundCount]uint32 {
	var w [roundCount]uint32
	for i, x := range block {
		w[i/4] = w[i/4]<<8 | uint32(x)
	}
	for i := blockSize / 4; i < roundCount; i++ {
		w[i] = bits.RotateLeft32(w[i-3]^w[i-8]^w[i-14]^w[i-16], 1)
	}
	return w
}
