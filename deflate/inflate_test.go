package deflate_test

import (
	"bytes"
	"compress/zlib"
	"math"
	"slices"
	"strings"
	"testing"

	"gitlike/api"
	"gitlike/deflate"
)

func TestTheDocumentsExample(t *testing.T) {
	right(t, "a", []byte{0x78, 0x01, 0x01, 0x01, 0x00, 0xfe, 0xff, 0x61, 0x00, 0x62, 0x00, 0x62}, "a")
}

func TestHeads(t *testing.T) {
	for head := range 65536 {
		first, second := head/256, head%256
		want := api.ErrZlib
		if first%16 == 8 && first/16 <= 7 && head%31 == 0 && second&32 == 0 {
			want = api.OK
		}
		z := new(row).block(true, 1).fixed(256).zlibOf(head, "")
		if _, _, err := deflate.Inflate(z, 0); api.Tell(err) != want {
			t.Errorf("head %04x: %v", head, err)
		}
	}
}

func TestStoredBlocks(t *testing.T) {
	right(t, "nothing", new(row).stored(true, nil).zlib(""), "")
	right(t, "some", new(row).stored(true, []byte("some")).zlib("some"), "some")
	right(t, "two", new(row).stored(false, []byte("on")).stored(true, []byte("e")).zlib("one"), "one")
	full := noise(1, 65535)
	wants(t, "as many as can be", new(row).stored(true, full).zlib(string(full)), 65535, api.OK, string(full), 65535+11)
	set := new(row).block(true, 0).fill(1).num(1, 16).num(65534, 16).raw('a')
	right(t, "bits that are left out are set", set.zlib("a"), "a")
	behind := new(row).block(false, 1).fixed('a').fixed(256).stored(true, []byte("b"))
	right(t, "behind a block of kind 1", behind.zlib("ab"), "ab")
	for bit := range 16 {
		z := new(row).block(true, 0).fill(0).num(1, 16).num(65534^1<<bit, 16).raw('a').zlib("a")
		wrong(t, "LEN and 65535 less LEN", z)
	}
}

func TestKindThree(t *testing.T) {
	wrong(t, "alone", new(row).block(true, 3).zlib(""))
	wrong(t, "behind another block", new(row).stored(false, nil).block(true, 3).zlib(""))
}

func TestFixedBytes(t *testing.T) {
	all := make([]byte, 256)
	r := new(row).block(true, 1)
	for i := range all {
		all[i] = byte(i)
		r.fixed(i)
	}
	right(t, "all bytes", r.fixed(256).zlib(string(all)), string(all))
	last := new(row).block(true, 1).fixed(256).fill(1)
	right(t, "bits behind the last symbol are set", last.zlib(""), "")
}

// lengthColumns and farColumns are the tables of 1.3: the first symbol, how many there are, their bits, where the first one begins.
var (
	lengthColumns = [][4]int{{257, 8, 0, 3}, {265, 4, 1, 11}, {269, 4, 2, 19}, {273, 4, 3, 35}, {277, 4, 4, 67}, {281, 4, 5, 131}, {285, 1, 0, 258}}
	farColumns    = [][4]int{{0, 4, 0, 1}, {4, 2, 1, 5}, {6, 2, 2, 9}, {8, 2, 3, 17}, {10, 2, 4, 33}, {12, 2, 5, 65}, {14, 2, 6, 129}, {16, 2, 7, 257}, {18, 2, 8, 513}, {20, 2, 9, 1025}, {22, 2, 10, 2049}, {24, 2, 11, 4097}, {26, 2, 12, 8193}, {28, 2, 13, 16385}}
)

func TestAllLengths(t *testing.T) {
	for _, c := range lengthColumns {
		for i := range c[1] {
			for more := range 1 << c[2] {
				n := c[3] + i<<c[2] + more
				z := new(row).block(true, 1).fixed('x').fixed(c[0]+i).num(more, c[2]).far(0, 0, 0).fixed(256)
				out := strings.Repeat("x", n+1)
				wants(t, "a length", z.zlib(out), n+1, api.OK, out, len(z.bytes())+6)
				wants(t, "a length, one too many", z.zlib(out), n, api.ErrLong, "", 0)
			}
		}
	}
}

func TestAllDistances(t *testing.T) {
	for _, c := range farColumns {
		for i := range c[1] {
			for _, more := range []int{0, 1<<c[2] - 1, 1 << c[2] / 3} {
				d := c[3] + i<<c[2] + more
				b := noise(int64(d), d)
				out := slices.Clone(b)
				for range 5 {
					out = append(out, out[len(out)-d])
				}
				z := new(row).stored(false, b).block(true, 1).fixed(259).far(c[0]+i, more, c[2]).fixed(256)
				wants(t, "a distance", z.zlib(string(out)), len(out), api.OK, string(out), len(z.bytes())+6)
				z = new(row).stored(false, b[1:]).block(true, 1).fixed(259).far(c[0]+i, more, c[2]).fixed(256)
				wrong(t, "a distance above what was put out", z.zlib(string(out[1:])))
			}
		}
	}
}

func TestSymbolsThatAreNone(t *testing.T) {
	for _, n := range []int{286, 287} {
		wrong(t, "a length", new(row).block(true, 1).fixed('x').fixed(n).far(0, 0, 0).fixed(256).zlib("xxxx"))
	}
	for _, n := range []int{30, 31} {
		b := bytes.Repeat([]byte{'x'}, 60000)
		out := string(b) + "xxx"
		wrong(t, "a distance", new(row).stored(false, b).block(true, 1).fixed(257).far(n, 0, 0).fixed(256).zlib(out))
		wrong(t, "a distance, with bits", new(row).stored(false, b).block(true, 1).fixed(257).far(n, 0, 13).fixed(256).zlib(out))
	}
	wrong(t, "a distance where nothing was put out", new(row).block(true, 1).fixed(257).far(0, 0, 0).fixed(256).zlib(""))
}

// TestWindow wants, for each size of the window, the greatest distance and none above it.
func TestWindow(t *testing.T) {
	heads := []int{0x081d, 0x1819, 0x2815, 0x3811, 0x480d, 0x5809, 0x6805, 0x7801}
	b := noise(2, 40000)
	for w, head := range heads {
		d := 1 << (w + 8)
		out := append(slices.Clone(b), b[len(b)-d:len(b)-d+3]...)
		z := new(row).stored(false, b).block(true, 1).fixed(257).far(15+2*w, 1<<(w+6)-1, w+6).fixed(256)
		wants(t, "the greatest distance", z.zlibOf(head, string(out)), len(out), api.OK, string(out), len(z.bytes())+6)
		if w == 7 {
			continue
		}
		out = append(slices.Clone(b), b[len(b)-d-1:len(b)-d+2]...)
		z = new(row).stored(false, b).block(true, 1).fixed(257).far(16+2*w, 0, w+7).fixed(256)
		wants(t, "one above it", z.zlibOf(head, string(out)), len(out), api.ErrZlib, "", 0)
		wants(t, "one above it, in the greatest window", z.zlib(string(out)), len(out), api.OK, string(out), len(z.bytes())+6)
	}
}

func TestToldCodes(t *testing.T) {
	lengths := some(258, 'a', 1, 'b', 2, 256, 3, 257, 3)
	z := new(row).told(true, lengths, []int{1, 1}).code("0").code("10").code("111").code("1").code("110")
	right(t, "a b and again", z.zlib("ababa"), "ababa")
	deep := some(257, 'a', 1, 'b', 2, 'c', 3, 'd', 4, 'e', 5, 'f', 6, 'g', 7, 'h', 8, 'i', 9, 'j', 10, 'k', 11, 'l', 12, 'm', 13, 'n', 14, 'o', 15, 256, 15)
	codes := codesOf(deep)
	r := new(row).told(true, deep, []int{0})
	for _, c := range []byte("onmlkjihgfedcba") {
		r.code(codes[c])
	}
	right(t, "codes of up to 15 bits", r.code(codes[256]).zlib("onmlkjihgfedcba"), "onmlkjihgfedcba")
	next := new(row).told(false, some(257, 'a', 1, 256, 1), []int{0}).code("01").told(true, some(257, 'b', 1, 256, 1), []int{0}).code("01")
	right(t, "each block has its own", next.zlib("ab"), "ab")
}

func TestCodesThatAreNotWhole(t *testing.T) {
	none := []int{0}
	for _, c := range []struct {
		name    string
		lengths []int
	}{
		{"room is left", some(257, 'a', 2, 256, 1)},
		{"room is left, deep", some(257, 'a', 2, 'b', 3, 256, 1)},
		{"too many", some(257, 'a', 1, 'b', 1, 256, 1)},
		{"too many, deep", some(257, 'a', 1, 'b', 2, 'c', 2, 'd', 15, 256, 15)},
		{"one symbol of two bits", some(257, 256, 2)},
		{"one symbol of 15 bits", some(257, 256, 15)},
		{"no end of the block", some(257, 'a', 1, 'b', 1)},
		{"no end of the block, one symbol", some(257, 'a', 1)},
		{"no symbol", some(257)},
	} {
		wrongAhead(t, c.name, new(row).told(true, c.lengths, none).num(0, 15).zlib(""))
	}
	ends := some(257, 'a', 1, 256, 1)
	for _, c := range []struct {
		name      string
		distances []int
	}{
		{"distances: room is left", []int{1, 2}},
		{"distances: too many", []int{1, 1, 1}},
		{"distances: one of two bits", []int{0, 2}},
		{"distances: one of 15 bits", []int{15}},
	} {
		wrongAhead(t, c.name, new(row).told(true, ends, c.distances).code("0").code("1").zlib(""))
	}
}

func TestCodesOfOneSymbol(t *testing.T) {
	right(t, "the end alone", new(row).told(true, some(257, 256, 1), []int{0}).code("0").zlib(""), "")
	wrong(t, "the end's bit 1", new(row).told(true, some(257, 256, 1), []int{0}).code("1").num(0, 64).zlib(""))
	lengths := some(258, 'a', 1, 256, 2, 257, 2)
	for n := 1; n <= 30; n++ {
		far := some(n, n-1, 1)
		right(t, "one distance, not used", new(row).told(true, lengths, far).code("0").code("10").zlib("a"), "a")
		wrong(t, "its bit 1", new(row).told(true, lengths, far).code("0").code("11").code("1").num(0, 64).zlib("aaaa"))
	}
	right(t, "one distance", new(row).told(true, lengths, []int{1}).code("0").code("11").code("0").code("10").zlib("aaaa"), "aaaa")
	right(t, "one distance, not the first", new(row).told(true, lengths, []int{0, 1}).code("0").code("0").code("11").code("0").code("10").zlib("aaaaa"), "aaaaa")
}

func TestNoDistances(t *testing.T) {
	lengths := some(258, 'a', 1, 256, 2, 257, 2)
	for _, n := range []int{1, 2, 30} {
		right(t, "not used", new(row).told(true, lengths, times(n, 0)).code("0").code("10").zlib("a"), "a")
		wrong(t, "used, bits 0", new(row).told(true, lengths, times(n, 0)).code("0").code("11").num(0, 64).zlib("aaaa"))
		wrong(t, "used, bits 1", new(row).told(true, lengths, times(n, 0)).code("0").code("11").num(math.MaxInt, 63).zlib("aaaa"))
	}
}

func TestHowManyAreTold(t *testing.T) {
	for n := 257; n <= 288; n++ {
		z := new(row).told(true, some(n, 'a', 1, 256, 1), []int{0}).code("01").zlib("a")
		if n <= 286 {
			right(t, "lengths", z, "a")
		} else {
			wrongAhead(t, "lengths", z)
		}
	}
	for n := 1; n <= 32; n++ {
		z := new(row).told(true, some(257, 'a', 1, 256, 1), some(n, 0, 1)).code("01").zlib("a")
		if n <= 30 {
			right(t, "distances", z, "a")
		} else {
			wrongAhead(t, "distances", z)
		}
	}
}

// TestShortThird leaves out the last lengths of the third code: they are 0.
func TestShortThird(t *testing.T) {
	r := new(row).block(true, 2).num(0, 5).num(0, 5)
	r.num(18-4, 4)
	third := some(19, 18, 1, 0, 2, 1, 2)
	for _, symbol := range thirdOrder[:18] {
		r.num(third[symbol], 3)
	}
	r.code("0").num(138-11, 7).code("0").num(256-138-11, 7).code("11").code("10")
	right(t, "the last one left out", r.code("0").zlib(""), "")
	r = new(row).block(true, 2).num(0, 5).num(0, 5).num(0, 4)
	r.num(0, 3).num(0, 3).num(1, 3).num(1, 3)
	r.code("1").num(127, 7).code("1").num(127, 7)
	wrong(t, "four, without an end of the block", r.code("0").zlib(""))
}

func TestThirdThatIsNotWhole(t *testing.T) {
	for _, c := range []struct {
		name  string
		third []int
	}{
		{"no symbol", some(19)},
		{"one symbol", some(19, 1, 1)},
		{"one symbol of two bits", some(19, 1, 2)},
		{"room is left", some(19, 0, 1, 1, 2)},
		{"room is left, deep", some(19, 0, 1, 1, 2, 18, 7)},
		{"too many", some(19, 0, 1, 1, 1, 18, 1)},
	} {
		wrong(t, c.name, new(row).head(true, 257, 1, c.third, nil).num(0, 600).zlib(""))
	}
}

// runs is a third code with all kinds of runs.
var runs = some(19, 0, 3, 1, 3, 2, 3, 3, 3, 8, 3, 16, 3, 17, 3, 18, 3)

func TestRuns(t *testing.T) {
	for _, c := range []struct {
		name    string
		far     int // how many distances
		steps   []step
		symbols string
		out     string
		broken  bool
	}{
		{"noughts up to the end of the block", 1, []step{{18, 127}, {18, 107}, {1, 0}, {1, 0}}, "0", "", false},
		{"noughts by few", 1, []step{{18, 127}, {17, 7}, {18, 97}, {1, 0}, {0, 0}}, "0", "", false},
		{"the least noughts", 1, []step{{18, 127}, {18, 0}, {17, 0}, {18, 93}, {1, 0}, {0, 0}}, "0", "", false},
		{"the last one again, bytes", 1, []step{{3, 0}, {16, 3}, {18, 127}, {18, 100}, {3, 0}, {0, 0}}, "000" + "111", "\x00", false},
		{"again of noughts of a run", 1, []step{{18, 127}, {18, 104}, {16, 0}, {1, 0}, {1, 0}}, "0", "", false},
		{"again of one that was again", 1, []step{{3, 0}, {16, 0}, {16, 0}, {18, 127}, {18, 100}, {3, 0}, {0, 0}}, "111", "", false},
		{"nothing is there to be again", 1, []step{{16, 0}, {18, 127}, {18, 104}, {1, 0}, {1, 0}}, "0", "", true},
		{"noughts up to the row's end", 14, []step{{18, 127}, {18, 107}, {1, 0}, {18, 3}}, "0", "", false},
		{"one nought too many", 14, []step{{18, 127}, {18, 107}, {1, 0}, {18, 4}}, "0", "", true},
		{"few noughts up to the row's end", 10, []step{{18, 127}, {18, 107}, {1, 0}, {17, 7}}, "0", "", false},
		{"few noughts, one too many", 9, []step{{18, 127}, {18, 107}, {1, 0}, {17, 7}}, "0", "", true},
		{"again up to the row's end", 4, []step{{18, 127}, {18, 107}, {1, 0}, {2, 0}, {16, 0}}, "0", "", false},
		{"again, one too many", 3, []step{{18, 127}, {18, 107}, {1, 0}, {2, 0}, {16, 0}}, "0", "", true},
	} {
		z := new(row).head(true, 257, c.far, runs, c.steps).code(c.symbols).zlib(c.out)
		if c.broken {
			wrong(t, c.name, z)
		} else {
			right(t, c.name, z, c.out)
		}
	}
}

// TestRunOverBothCodes: lengths and distances are one row.
func TestRunOverBothCodes(t *testing.T) {
	steps := []step{{18, 127}, {18, 104}, {2, 0}, {16, 3}, {2, 0}}
	z := new(row).head(true, 257, 4, runs, steps).code("11").zlib("")
	right(t, "four symbols, four distances", z, "")
}

func TestSum(t *testing.T) {
	z := new(row).stored(true, []byte("some")).zlib("some")
	for bit := range 32 {
		bad := slices.Clone(z)
		bad[len(z)-4+bit/8] ^= 1 << (bit % 8)
		wants(t, "a wrong sum", bad, 4, api.ErrZlib, "", 0)
		wants(t, "too long ahead of a wrong sum", bad, 3, api.ErrLong, "", 0)
	}
}

// TestWhichIsMetFirst holds ErrZlib against ErrLong.
func TestWhichIsMetFirst(t *testing.T) {
	a := func() *row { return new(row).block(false, 1).fixed('a') }
	for _, c := range []struct {
		name string
		in   []byte
		most int
		err  api.Errno
	}{
		{"a byte, then a symbol that is none", a().fixed(286).zlib(""), 0, api.ErrLong},
		{"a byte that may be, then a symbol that is none", a().fixed(286).zlib(""), 1, api.ErrZlib},
		{"a byte, then a kind that is none", a().fixed(256).block(true, 3).zlib(""), 0, api.ErrLong},
		{"a byte that may be, then a kind that is none", a().fixed(256).block(true, 3).zlib(""), 1, api.ErrZlib},
		{"two bytes, then the end", a().fixed('b').zlib("")[:5], 1, api.ErrLong},
		{"a byte that is not all there", a().bytes(), 0, api.ErrZlib},
		{"a wrong head ahead of a byte", a().fixed(256).zlibOf(0x7802, "a"), 0, api.ErrZlib},
		{"too long by a distance that is none", a().fixed(257).far(30, 0, 0).fixed(256).zlib("aaaa"), 1, api.ErrZlib},
		{"too long by a distance above what was put out", a().fixed(257).far(1, 0, 0).fixed(256).zlib("aaaa"), 1, api.ErrZlib},
		{"too long by a distance", a().fixed(257).far(0, 0, 0).fixed(287).zlib(""), 3, api.ErrLong},
		{"not too long by a distance", a().fixed(257).far(0, 0, 0).fixed(287).zlib(""), 4, api.ErrZlib},
		{"a stored block too long", new(row).stored(false, []byte("some")).block(true, 3).zlib(""), 3, api.ErrLong},
		{"a stored block not too long", new(row).stored(false, []byte("some")).block(true, 3).zlib(""), 4, api.ErrZlib},
		{"a stored block too long, a byte is not there", []byte{0x78, 1, 1, 4, 0, 251, 255, 's', 'o', 'm'}, 1, api.ErrZlib},
		{"a stored block too long, no more than its bytes", []byte{0x78, 1, 1, 4, 0, 251, 255, 's', 'o', 'm', 'e'}, 1, api.ErrLong},
		{"a stored block too long, LEN is wrong", []byte{0x78, 1, 1, 4, 0, 250, 255, 's', 'o', 'm', 'e', 0, 0, 0, 0}, 1, api.ErrZlib},
		{"codes that are wrong, nothing more may be", a().fixed(256).told(true, some(257, 256, 2), []int{0}).zlib("a"), 1, api.ErrZlib},
	} {
		wants(t, c.name, c.in, c.most, c.err, "", 0)
	}
}

func TestMost(t *testing.T) {
	empty := new(row).stored(true, nil).zlib("")
	one := new(row).stored(true, []byte("a")).zlib("a")
	for _, most := range []int{-1, -100, math.MinInt, 0} {
		wants(t, "nothing", empty, most, api.OK, "", len(empty))
		wants(t, "one byte", one, most, api.ErrLong, "", 0)
		wants(t, "no stream", one[:len(one)-5], most, api.ErrZlib, "", 0)
	}
	for _, most := range []int{1, 2, math.MaxInt} {
		wants(t, "one byte", one, most, api.OK, "a", len(one))
	}
}

// TestStreamsOfOthers reads what another program writes.
func TestStreamsOfOthers(t *testing.T) {
	text := []byte(strings.Repeat("Everything is an object, named by the SHA-1 of what it is. ", 30))
	for _, b := range [][]byte{nil, text[:1], text, noise(3, 1000), append(noise(4, 40000), text...)} {
		for level := zlib.HuffmanOnly; level <= zlib.BestCompression; level++ {
			var z bytes.Buffer
			w, _ := zlib.NewWriterLevel(&z, level)
			w.Write(b[:len(b)/2])
			w.Flush()
			w.Write(b[len(b)/2:])
			w.Close()
			s := z.Bytes()
			wants(t, "another's", s, len(b), api.OK, string(b), len(s))
			if len(s) < 2000 {
				right(t, "another's", s, string(b))
			}
		}
	}
}
