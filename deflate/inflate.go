package deflate

import (
	"slices"

	"gitlike/api"
)

// stream is a zlib stream that is being read. At the first thing that is wrong its methods give up by a panic with the error, which Inflate recovers.
type stream struct {
	in     []byte
	next   int // the byte of in that is read next
	hold   int // bits of the byte ahead of it that are not read yet
	held   int // how many, at most 7
	out    []byte
	most   int // so many bytes may come out
	window int // no distance is above that
}

// Inflate reads a zlib stream at the front: its bytes, at most most of them; how many bytes it has itself.
func Inflate(b []byte, most int) (out []byte, used int, err error) {
	defer func() {
		if r := recover(); r != nil {
			err = reason(r)
		}
	}()
	s := &stream{in: b, most: max(most, 0)}
	s.readHead()
	for last := false; !last; {
		last = s.readBlock()
	}
	s.checkSum()
	return s.out, s.next, nil
}

// reason tells why a stream was given up. No call may panic, so whatever is not told by its number counts as a broken stream.
func reason(r any) error {
	if e, ok := r.(api.Errno); ok {
		return e
	}
	return api.ErrZlib
}

func (s *stream) readHead() {
	first, second := s.readByte(), s.readByte()
	if first%16 != 8 || first/16 > 7 || (first*256+second)%31 != 0 || second&32 != 0 {
		panic(api.ErrZlib)
	}
	s.window = 1 << (first/16 + 8)
}

// checkSum reads the sum behind the last block. It stands in whole bytes: the bits that are left of the byte ahead are nobody's.
func (s *stream) checkSum() {
	sum := uint32(0)
	for range 4 {
		sum = sum<<8 | uint32(s.readByte())
	}
	if sum != Adler(s.out) {
		panic(api.ErrZlib)
	}
}

// readBlock tells whether it was the last one.
func (s *stream) readBlock() bool {
	last := s.number(1) == 1
	switch s.number(2) {
	case 0:
		s.readStored()
	case 1:
		s.readSymbols(s.fixedCodes())
	case 2:
		s.readSymbols(s.toldCodes())
	default:
		panic(api.ErrZlib)
	}
	return last
}

func (s *stream) readStored() {
	s.skipBits()
	size := s.number(16)
	if s.number(16) != 65535-size || size > len(s.in)-s.next {
		panic(api.ErrZlib)
	}
	s.needRoom(size)
	s.out = append(s.out, s.in[s.next:s.next+size]...)
	s.next += size
}

func (s *stream) readSymbols(symbol, distance code) {
	for {
		n := symbol()
		switch {
		case n < endOfBlock:
			s.needRoom(1)
			s.out = append(s.out, byte(n))
		case n == endOfBlock:
			return
		default:
			length := s.readLength(n - firstLength)
			s.repeat(length, s.readDistance(distance()))
		}
	}
}

func (s *stream) readLength(n int) int {
	if n >= lengthCount {
		panic(api.ErrZlib)
	}
	return lengthStart[n] + s.number(lengthBits[n])
}

func (s *stream) readDistance(n int) int {
	if n >= distanceCount {
		panic(api.ErrZlib)
	}
	return distanceStart[n] + s.number(distanceBits[n])
}

// repeat puts out one byte at a time, since it may repeat what it has just put out.
func (s *stream) repeat(length, distance int) {
	if distance > len(s.out) || distance > s.window {
		panic(api.ErrZlib)
	}
	s.needRoom(length)
	for range length {
		s.out = append(s.out, s.out[len(s.out)-distance])
	}
}

func (s *stream) needRoom(n int) {
	if n > s.most-len(s.out) {
		panic(api.ErrLong)
	}
}

// fixedCodes are those of kind 1: of lengths, of distances.
func (s *stream) fixedCodes() (code, code) {
	lengths := make([]int, 288)
	for symbol := range lengths {
		_, lengths[symbol] = fixedCode(symbol)
	}
	return s.wholeCode(lengths), s.wholeCode(slices.Repeat([]int{fixedDistanceBits}, 32))
}

// toldCodes are those that stand in a block of kind 2.
func (s *stream) toldCodes() (code, code) {
	lengths := s.number(5) + firstLength
	distances := s.number(5) + 1
	if lengths > firstLength+lengthCount || distances > distanceCount {
		panic(api.ErrZlib)
	}
	row := s.readRow(s.thirdCode(s.number(4)+4), lengths+distances)
	if row[endOfBlock] == 0 {
		panic(api.ErrZlib)
	}
	return s.bareCode(row[:lengths]), s.bareCode(row[lengths:])
}

func (s *stream) thirdCode(told int) code {
	lengths := make([]int, thirdCount)
	for i := range told {
		lengths[thirdOrder[i]] = s.number(3)
	}
	return s.wholeCode(lengths)
}

// readRow reads so many lengths of bits.
func (s *stream) readRow(symbol code, size int) []int {
	var row []int
	for len(row) < size {
		length, times := s.readRun(symbol(), row)
		if times > size-len(row) {
			panic(api.ErrZlib)
		}
		row = append(row, slices.Repeat([]int{length}, times)...)
	}
	return row
}

// readRun tells what a symbol of the third code adds to a row.
func (s *stream) readRun(symbol int, row []int) (length, times int) {
	switch symbol {
	case lastAgain:
		if len(row) == 0 {
			panic(api.ErrZlib)
		}
		return row[len(row)-1], 3 + s.number(2)
	case fewNoughts:
		return 0, 3 + s.number(3)
	case manyNoughts:
		return 0, 11 + s.number(7)
	}
	return symbol, 1
}

func (s *stream) readByte() int {
	if s.next == len(s.in) {
		panic(api.ErrZlib)
	}
	s.next++
	return int(s.in[s.next-1])
}

// number reads a number of so many bits, its lowest one first. No byte is taken before one of its bits is asked for.
func (s *stream) number(bits int) int {
	for s.held < bits {
		s.hold |= s.readByte() << s.held
		s.held += 8
	}
	n := s.hold & (1<<bits - 1)
	s.hold >>= bits
	s.held -= bits
	return n
}

// skipBits leaves out what is left of a byte.
func (s *stream) skipBits() {
	s.hold, s.held = 0, 0
}
