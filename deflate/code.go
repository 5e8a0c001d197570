package deflate

import "gitlike/api"

// longestCode is how many bits a symbol has at most.
const longestCode = 15

// code reads the bits of one symbol, and answers it.
type code func() int

// counts are how many symbols there are of each length of bits.
type counts [longestCode + 1]int

// countLengths counts them; symbols without bits are left out.
func countLengths(lengths []int) counts {
	var c counts
	for _, n := range lengths {
		if n > 0 {
			c[n]++
		}
	}
	return c
}

// whole tells whether every row of bits begins with just one symbol's.
func (c counts) whole() bool {
	free := 1
	for n := 1; n <= longestCode; n++ {
		free = 2*free - c[n]
		if free < 0 {
			return false
		}
	}
	return free == 0
}

// bare tells whether there is no symbol at all, or just one, with a length of 1.
func (c counts) bare() bool {
	all := 0
	for _, n := range c {
		all += n
	}
	return all == 0 || all == 1 && c[1] == 1
}

// inOrder sorts the symbols that have bits as their codes are given: by the lengths, then by the symbols.
func (c counts) inOrder(lengths []int) []int {
	var place [longestCode + 2]int
	for n := 1; n <= longestCode; n++ {
		place[n+1] = place[n] + c[n]
	}
	sorted := make([]int, place[longestCode+1])
	for symbol, n := range lengths {
		if n > 0 {
			sorted[place[n]] = symbol
			place[n]++
		}
	}
	return sorted
}

// wholeCode makes a code of the symbols' lengths, which must be whole.
func (s *stream) wholeCode(lengths []int) code {
	c := countLengths(lengths)
	if !c.whole() {
		panic(api.ErrZlib)
	}
	return s.decoder(c, c.inOrder(lengths))
}

// bareCode makes a code which may be bare, too. (Of lengths that is one symbol at least: the end of the block.)
func (s *stream) bareCode(lengths []int) code {
	c := countLengths(lengths)
	if !c.whole() && !c.bare() {
		panic(api.ErrZlib)
	}
	return s.decoder(c, c.inOrder(lengths))
}

// decoder reads bit by bit, so that no bit is asked for behind the symbol's last one: the stream may end there. Among the codes of n bits the first one is known by how many shorter ones there are.
func (s *stream) decoder(c counts, sorted []int) code {
	return func() int {
		bits, first, passed := 0, 0, 0
		for n := 1; n <= longestCode; n++ {
			bits = 2*bits + s.number(1)
			first *= 2
			if bits-first < c[n] {
				return sorted[passed+bits-first]
			}
			first += c[n]
			passed += c[n]
		}
		panic(api.ErrZlib)
	}
}
