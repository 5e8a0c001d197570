package delta_test

import (
	"bytes"
	"math/rand"
	"testing"

	"gitlike/api"
	"gitlike/delta"
)

// join puts bytes one behind another.
func join(parts ...[]byte) []byte { return bytes.Join(parts, nil) }

// size is a size as the document writes it.
func size(n int) []byte {
	if n < 128 {
		return []byte{byte(n)}
	}
	return append([]byte{byte(n%128) + 128}, size(n/128)...)
}

// counted is bytes that tell where they stand.
func counted(n int) []byte {
	b := make([]byte, n)
	for i := range b {
		b[i] = byte(i ^ i>>8*37 ^ i>>16*101)
	}
	return b
}

// refused wants ErrDelta, and nothing beside it.
func refused(t *testing.T, name string, base, d []byte) {
	t.Helper()
	out, err := delta.Apply(base, d)
	if api.Tell(err) != api.ErrDelta || len(out) != 0 {
		t.Errorf("%s: %d bytes, %v", name, len(out), err)
	}
}

// made wants Apply to make just that.
func made(t *testing.T, name string, base, d, want []byte) {
	t.Helper()
	out, err := delta.Apply(base, d)
	if err != nil || !bytes.Equal(out, want) {
		t.Errorf("%s: %d bytes for %d, %v", name, len(out), len(want), err)
	}
}

// TestSizes: 4.1.
func TestSizes(t *testing.T) {
	for _, c := range []struct {
		delta        []byte
		base, target int
	}{
		{[]byte{0, 0}, 0, 0},
		{[]byte{1, 127}, 1, 127},
		{[]byte{0x80, 1, 0xff, 0x7f}, 128, 16383},
		{[]byte{0x80, 0x80, 1, 0xff, 0xff, 0x7f}, 16384, 2097151},
		{[]byte{0xff, 0xff, 0xff, 0x7f, 0x81, 0x82, 0x83, 4}, 268435455, 1 + 2<<7 + 3<<14 + 4<<21},
		{[]byte{0x80, 0x80, 0x80, 0x80, 1, 9}, 1 << 28, 9},
		{[]byte{9, 0xff, 0xff, 0xff, 0xff, 0x7f}, 9, 1<<35 - 1},
		{[]byte{0xff, 0xff, 0xff, 0xff, 0x7f, 0x80, 0x80, 0x80, 0x80, 0x40}, 1<<35 - 1, 1 << 34},
		{[]byte{3, 0xa1, 0x8d, 6, 0, 0, 0}, 3, 100001},
		{[]byte{10, 4, 0x80}, 10, 4},
	} {
		a, b, err := delta.Sizes(c.delta)
		if a != c.base || b != c.target || err != nil {
			t.Errorf("% x: %d, %d, %v", c.delta, a, b, err)
		}
	}
}

// TestNoSizes: 4.1, what does not begin with two sizes.
func TestNoSizes(t *testing.T) {
	for _, d := range [][]byte{
		nil,
		{},
		{5},
		{0x80},
		{0x80, 0x80, 0x80, 0x80},
		{0x80, 0x80, 0x80, 0x80, 0x80},
		{5, 0x80},
		{5, 0xff, 0xff, 0xff, 0xff},
		{0x80, 0, 5},
		{0x85, 0, 5, 5},
		{5, 0x85, 0},
		{5, 0x85, 0x80, 0x80, 0x80, 0},
		{0x81, 0x80, 0, 5},
		{0x80, 0x80, 0x80, 0x80, 0x80, 1, 1},
		{0x81, 0x81, 0x81, 0x81, 0x81, 0, 1},
		{1, 0x81, 0x81, 0x81, 0x81, 0x81, 1},
	} {
		a, b, err := delta.Sizes(d)
		if a != 0 || b != 0 || api.Tell(err) != api.ErrDelta {
			t.Errorf("% x: %d, %d, %v", d, a, b, err)
		}
		refused(t, "no sizes", nil, d)
		refused(t, "no sizes", []byte("12345"), d)
	}
}

// TestOffsets: 4.2, copies with and without each byte of an offset.
func TestOffsets(t *testing.T) {
	base := counted(1<<24 + 1<<17)
	front := join(size(len(base)), []byte{3})
	for _, c := range []struct {
		step []byte
		from int
	}{
		{[]byte{0x90, 3}, 0},
		{[]byte{0x91, 7, 3}, 7},
		{[]byte{0x91, 255, 3}, 255},
		{[]byte{0x91, 0, 3}, 0},
		{[]byte{0x92, 1, 3}, 256},
		{[]byte{0x92, 255, 3}, 0xff00},
		{[]byte{0x94, 1, 3}, 0x10000},
		{[]byte{0x94, 255, 3}, 0xff0000},
		{[]byte{0x98, 1, 3}, 0x1000000},
		{[]byte{0x93, 2, 1, 3}, 0x102},
		{[]byte{0x95, 2, 1, 3}, 0x10002},
		{[]byte{0x96, 2, 1, 3}, 0x10200},
		{[]byte{0x99, 2, 1, 3}, 0x1000002},
		{[]byte{0x9a, 2, 1, 3}, 0x1000200},
		{[]byte{0x9c, 1, 1, 3}, 0x1010000},
		{[]byte{0x9f, 4, 3, 1, 1, 3}, 0x1010304},
		{[]byte{0xff, 4, 3, 1, 1, 3, 0, 0}, 0x1010304},
	} {
		made(t, "an offset", base, join(front, c.step), base[c.from:c.from+3])
	}
	refused(t, "an offset far beyond", base, join(front, []byte{0x98, 2, 3}))
	refused(t, "the greatest offset", base, join(front, []byte{0x9f, 255, 255, 255, 255, 3}))
}

// TestLengths: 4.2, copies with and without each byte of a length.
func TestLengths(t *testing.T) {
	base := counted(100500)
	for _, c := range []struct {
		step   []byte
		length int
	}{
		{[]byte{0x90, 1}, 1},
		{[]byte{0x90, 255}, 255},
		{[]byte{0xa0, 1}, 256},
		{[]byte{0xa0, 255}, 0xff00},
		{[]byte{0xc0, 1}, 65536},
		{[]byte{0xb0, 1, 2}, 0x201},
		{[]byte{0xd0, 9, 1}, 0x10009},
		{[]byte{0xe0, 2, 1}, 0x10200},
		{[]byte{0xf0, 0xa0, 0x86, 1}, 100000},
		{[]byte{0x80}, 65536},
		{[]byte{0x90, 0}, 65536},
		{[]byte{0xf0, 0, 0, 0}, 65536},
		{[]byte{0xf0, 1, 0, 0}, 1},
	} {
		made(t, "a length", base, join(size(len(base)), size(c.length), c.step), base[:c.length])
	}
	made(t, "65536 bytes from an offset", base, join(size(len(base)), size(65536), []byte{0x82, 2}), base[512:512+65536])
	made(t, "all bytes follow", base, join(size(len(base)), size(0x10203), []byte{0xff, 5, 1, 0, 0, 3, 2, 1}), base[261:261+0x10203])
	refused(t, "the greatest length", base, join(size(len(base)), size(100000), []byte{0xf0, 255, 255, 255}))
}

// TestOwnBytes: 4.2, steps whose bytes follow, and the order of steps.
func TestOwnBytes(t *testing.T) {
	base := counted(300)
	own := bytes.Repeat([]byte{0, 255}, 64)[:127]
	front := size(300)
	made(t, "one", base, join(front, []byte{1, 1, 0}), []byte{0})
	made(t, "127", base, join(front, []byte{127, 127}, own), own)
	made(t, "128", base, join(front, size(128), []byte{127}, own, []byte{1, 5}), join(own, []byte{5}))
	made(t, "both", base, join(front, []byte{7, 2, 8, 9, 0x91, 3, 2, 1, 4, 0x90, 2}), join([]byte{8, 9}, base[3:5], []byte{4}, base[:2]))
	made(t, "nothing", base, join(front, []byte{0}), nil)
	made(t, "nothing of nothing", nil, []byte{0, 0}, nil)
	made(t, "of nothing", nil, []byte{0, 2, 2, 'a', 'b'}, []byte("ab"))
	for n := range 127 {
		refused(t, "cut off", base, join(front, []byte{127, 127}, own[:n]))
		refused(t, "cut off", base, join(front, size(n), []byte{127}, own[:n]))
	}
}

// TestNoSteps: 4.3, steps that are none or not all there.
func TestNoSteps(t *testing.T) {
	base := counted(300)
	front := join(size(300), []byte{4})
	refused(t, "a byte 0", base, join(size(300), []byte{0, 0}))
	refused(t, "a byte 0 first", base, join(front, []byte{0, 4, 1, 2, 3, 4}))
	refused(t, "a byte 0 between", base, join(front, []byte{2, 1, 2, 0, 2, 3, 4}))
	refused(t, "a byte 0 behind", base, join(front, []byte{4, 1, 2, 3, 4, 0}))
	step := []byte{0xff, 1, 0, 0, 0, 4, 0, 0}
	made(t, "all there", base, join(front, step), base[1:5])
	for n := range step[1:] {
		refused(t, "a copy cut off", base, join(front, step[:n+1]))
	}
	long := counted(70000)
	for bit := range 7 {
		refused(t, "a copy of one byte cut off", long, join(size(70000), size(65536), []byte{0x80 | 1<<bit}))
	}
}

// TestOutside: 4.3, copies at the base's end and beyond it.
func TestOutside(t *testing.T) {
	base := counted(300)
	front := join(size(300), []byte{4})
	made(t, "up to the end", base, join(front, []byte{0x93, 40, 1, 4}), base[296:])
	refused(t, "a byte more", base, join(front, []byte{0x93, 41, 1, 4}))
	refused(t, "from the end on", base, join(front, []byte{0x93, 44, 1, 4}))
	refused(t, "from behind the end on", base, join(front, []byte{0x93, 45, 1, 4}))
	made(t, "the last byte", base, join(size(300), []byte{1, 0x93, 43, 1, 1}), base[299:])
	refused(t, "a byte behind it", base, join(size(300), []byte{1, 0x93, 44, 1, 1}))
	refused(t, "a byte of none", nil, []byte{0, 1, 0x90, 1})
	full := counted(65536)
	made(t, "all 65536", full, join(size(65536), size(65536), []byte{0x80}), full)
	refused(t, "65536 of 65535", full[:65535], join(size(65535), size(65536), []byte{0x80}))
	refused(t, "65536 from 1 on", full, join(size(65536), size(65536), []byte{0x81, 1}))
}

// TestWrongSizes: 4.3, sizes that are not those of the base and of what is put out.
func TestWrongSizes(t *testing.T) {
	base := counted(300)
	step := []byte{4, 1, 2, 3, 4}
	for _, n := range []int{0, 1, 299, 301, 300 + 1<<32} {
		refused(t, "another base", base, join(size(n), []byte{4}, step))
	}
	made(t, "just so many", base, join(size(300), []byte{4}, step), step[1:])
	refused(t, "falls short", base, join(size(300), []byte{5}, step))
	refused(t, "goes beyond", base, join(size(300), []byte{3}, step))
	refused(t, "goes beyond by a copy", base, join(size(300), []byte{5}, step, []byte{0x90, 2}))
	refused(t, "goes beyond by another step", base, join(size(300), []byte{4}, step, []byte{1, 1}))
	refused(t, "nothing is put out", base, join(size(300), []byte{1}))
	refused(t, "something for nothing", base, join(size(300), []byte{0, 1, 1}))
	most := counted(api.MaxBlob + 1)
	copied := []byte{0xf0, 0xa0, 0x86, 1}
	made(t, "MaxBlob", most, join(size(len(most)), size(api.MaxBlob), copied), most[:api.MaxBlob])
	refused(t, "MaxBlob and one more", most, join(size(len(most)), size(api.MaxBlob+1), copied, []byte{1, 1}))
	refused(t, "one that no memory holds", base, join(size(300), size(1<<35-1), step))
}

// plainly is Apply, as the document's words say it, one step after another.
func plainly(base, d []byte) ([]byte, bool) {
	var sizes []int
	for range 2 {
		n, digits := 0, 0
		for {
			if digits == 5 || len(d) == 0 {
				return nil, false
			}
			b := int(d[0])
			d = d[1:]
			n += b % 128 << (7 * digits)
			digits++
			if b == 0 && digits > 1 {
				return nil, false
			}
			if b < 128 {
				break
			}
		}
		sizes = append(sizes, n)
	}
	if sizes[0] != len(base) || sizes[1] > 100000 {
		return nil, false
	}
	var out []byte
	for len(d) > 0 {
		head := int(d[0])
		d = d[1:]
		if head < 128 {
			if head == 0 || head > len(d) {
				return nil, false
			}
			out, d = append(out, d[:head]...), d[head:]
			continue
		}
		var field [7]int
		for i, worth := range []int{1, 2, 4, 8, 16, 32, 64} {
			if head&worth != 0 {
				if len(d) == 0 {
					return nil, false
				}
				field[i], d = int(d[0]), d[1:]
			}
		}
		from := field[0] + 256*(field[1]+256*(field[2]+256*field[3]))
		length := field[4] + 256*(field[5]+256*field[6])
		if length == 0 {
			length = 65536
		}
		for i := range length {
			if from+i >= len(base) {
				return nil, false
			}
			out = append(out, base[from+i])
		}
	}
	return out, len(out) == sizes[1]
}

// anySteps is steps, most of them right for a base of so many bytes, and how many bytes they put out if they are.
func anySteps(r *rand.Rand, base int) (steps []byte, makes int) {
	for range r.Intn(5) {
		switch r.Intn(3) {
		case 0:
			n := 1 + r.Intn(127)
			steps = append(append(steps, byte(n)), counted(n)...)
			makes += n
		case 1:
			from := r.Intn(base)
			n := 1 + r.Intn(min(base-from, 255))
			steps = append(steps, 0x93, byte(from), byte(from>>8), byte(n))
			makes += n
		default:
			from := r.Intn(256)
			steps = append(steps, 0x81, byte(from))
			makes += 65536
		}
	}
	return steps, makes
}

// TestAnyBytes holds Apply against the document's words: for deltas, and for deltas that a byte is changed of, or that are cut off.
func TestAnyBytes(t *testing.T) {
	r := rand.New(rand.NewSource(4))
	bases := [][]byte{counted(1), counted(200), counted(66000)}
	right, wrong := 0, 0
	for range 20000 {
		base := bases[r.Intn(len(bases))]
		steps, makes := anySteps(r, len(base))
		d := join(size(len(base)), size(makes), steps)
		switch r.Intn(4) {
		case 0:
			d[r.Intn(len(d))] ^= 1 << r.Intn(8)
		case 1:
			d = d[:r.Intn(len(d)+1)]
		}
		if want, ok := plainly(base, d); ok {
			right++
			made(t, "any", base, d, want)
		} else {
			wrong++
			refused(t, "any", base, d)
		}
	}
	if min(right, wrong) < 4000 {
		t.Errorf("%d are deltas, %d are none", right, wrong)
	}
}

// FuzzApply holds Apply against the document's words, for any bytes.
func FuzzApply(f *testing.F) {
	f.Add([]byte("0123456789"), []byte{10, 9, 0x91, 7, 3, 1, 'x', 0x91, 5, 5})
	f.Add([]byte{}, []byte{0, 0})
	f.Fuzz(func(t *testing.T, base, d []byte) {
		if want, ok := plainly(base, d); ok {
			made(t, "any", base, d, want)
		} else {
			refused(t, "any", base, d)
		}
	})
}
