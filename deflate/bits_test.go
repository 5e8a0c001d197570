package deflate_test

import (
	"bytes"
	"hash/adler32"
	"math/rand"
	"slices"
	"testing"

	"gitlike/api"
	"gitlike/deflate"
)

// row is a row of bits that a test writes by hand.
type row struct {
	bits []byte
}

// num writes a number, its lowest bit first.
func (r *row) num(n, size int) *row {
	for i := range size {
		r.bits = append(r.bits, byte(n>>i&1))
	}
	return r
}

// code writes bits as they stand in the text.
func (r *row) code(text string) *row {
	for i := range len(text) {
		r.bits = append(r.bits, text[i]-'0')
	}
	return r
}

// fill writes the bit up to the next byte.
func (r *row) fill(bit byte) *row {
	for len(r.bits)%8 != 0 {
		r.bits = append(r.bits, bit)
	}
	return r
}

// raw writes whole bytes.
func (r *row) raw(b ...byte) *row {
	for _, x := range b {
		r.num(int(x), 8)
	}
	return r
}

// block begins one.
func (r *row) block(last bool, kind int) *row {
	if last {
		return r.num(1, 1).num(kind, 2)
	}
	return r.num(0, 1).num(kind, 2)
}

// stored writes a whole block of kind 0.
func (r *row) stored(last bool, b []byte) *row {
	return r.block(last, 0).fill(0).num(len(b), 16).num(65535-len(b), 16).raw(b...)
}

// fixed writes a symbol by the code of kind 1.
func (r *row) fixed(symbol int) *row {
	return r.code(fixedCodes[symbol])
}

// far writes a distance by the code of kind 1.
func (r *row) far(symbol, more, size int) *row {
	return r.code(fixedFar[symbol]).num(more, size)
}

func (r *row) bytes() []byte {
	var out []byte
	for i, b := range r.bits {
		if i%8 == 0 {
			out = append(out, 0)
		}
		out[i/8] |= b << (i % 8)
	}
	return out
}

// zlib makes a whole stream of it, which gives out those bytes.
func (r *row) zlib(out string) []byte {
	return r.zlibOf(0x7801, out)
}

func (r *row) zlibOf(head int, out string) []byte {
	z := append([]byte{byte(head >> 8), byte(head)}, r.bytes()...)
	sum := adler32.Checksum([]byte(out))
	return append(z, byte(sum>>24), byte(sum>>16), byte(sum>>8), byte(sum))
}

// codesOf gives codes to symbols as 1.4 says, as texts.
func codesOf(lengths []int) []string {
	codes := make([]string, len(lengths))
	var order []int
	for symbol, n := range lengths {
		if n > 0 {
			order = append(order, symbol)
		}
	}
	slices.SortStableFunc(order, func(a, b int) int { return lengths[a] - lengths[b] })
	next, size := 0, 0
	for i, symbol := range order {
		if i > 0 {
			next++
		}
		next <<= lengths[symbol] - size
		size = lengths[symbol]
		for k := size - 1; k >= 0; k-- {
			codes[symbol] += string('0' + rune(next>>k&1))
		}
	}
	return codes
}

var (
	fixedCodes = codesOf(slices.Concat(times(144, 8), times(112, 9), times(24, 7), times(8, 8)))
	fixedFar   = codesOf(times(32, 5))
)

func times(n, value int) []int {
	return slices.Repeat([]int{value}, n)
}

// some makes lengths of bits for so many symbols, of those that are told: symbol, length, symbol, length ..
func some(n int, told ...int) []int {
	l := make([]int, n)
	for i := 0; i < len(told); i += 2 {
		l[told[i]] = told[i+1]
	}
	return l
}

// step is a symbol of the third code, with its bits.
type step struct {
	symbol, more int
}

var thirdOrder = []int{16, 17, 18, 0, 8, 7, 9, 6, 10, 5, 11, 4, 12, 3, 13, 2, 14, 1, 15}

// head writes what stands ahead of the symbols of kind 2.
func (r *row) head(last bool, lengths, distances int, third []int, steps []step) *row {
	r.block(last, 2).num(lengths-257, 5).num(distances-1, 5).num(19-4, 4)
	for _, symbol := range thirdOrder {
		r.num(third[symbol], 3)
	}
	codes := codesOf(third)
	for _, x := range steps {
		r.code(codes[x.symbol])
		switch x.symbol {
		case 16:
			r.num(x.more, 2)
		case 17:
			r.num(x.more, 3)
		case 18:
			r.num(x.more, 7)
		}
	}
	return r
}

// plainThird has all lengths 0 to 15, and no runs.
var plainThird = append(times(16, 4), 0, 0, 0)

// told writes what stands ahead of the symbols of kind 2, each length by itself.
func (r *row) told(last bool, lengths, distances []int) *row {
	var steps []step
	for _, n := range slices.Concat(lengths, distances) {
		steps = append(steps, step{n, 0})
	}
	return r.head(last, len(lengths), len(distances), plainThird, steps)
}

// wants holds Inflate against what it must answer.
func wants(t *testing.T, name string, in []byte, most int, err api.Errno, out string, used int) {
	t.Helper()
	got, n, e := deflate.Inflate(in, most)
	if api.Tell(e) != err || string(got) != out || n != used {
		t.Errorf("%s: %d bytes, %d used, %v; not: %d bytes, %d used, error %d", name, len(got), n, e, len(out), used, err)
	}
}

// right wants all of a stream, of just as many bytes as come out, with and without bytes behind it; and that it is too long for less, and broken wherever it is cut.
func right(t *testing.T, name string, z []byte, out string) {
	t.Helper()
	wants(t, name, z, len(out), api.OK, out, len(z))
	wants(t, name+", bytes behind", append(bytes.Clone(z), z...), len(out)+1, api.OK, out, len(z))
	if len(out) > 0 {
		wants(t, name+", one too many", z, len(out)-1, api.ErrLong, "", 0)
	}
	for cut := range z {
		wants(t, name+", cut", z[:cut], len(out), api.ErrZlib, "", 0)
	}
}

// wrong wants ErrZlib.
func wrong(t *testing.T, name string, z []byte) {
	t.Helper()
	wants(t, name, z, 1<<20, api.ErrZlib, "", 0)
}

// wrongAhead wants ErrZlib even where no byte may come out: the fault is met ahead of all bytes.
func wrongAhead(t *testing.T, name string, z []byte) {
	t.Helper()
	wrong(t, name, z)
	wants(t, name+", nothing may come out", z, 0, api.ErrZlib, "", 0)
}

// noise makes bytes that have nothing in common.
func noise(seed int64, n int) []byte {
	b := make([]byte, n)
	rand.New(rand.NewSource(seed)).Read(b)
	return b
}
