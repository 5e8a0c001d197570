package wire_test

import (
	"bytes"
	"fmt"
	"strings"
	"testing"

	"gitlike/api"
	"gitlike/wire"
)

// sameLines: it is all one whether an empty one is nil.
func sameLines(a, b [][]byte) bool {
	return len(a) == len(b) && fmt.Sprintf("%q", a) == fmt.Sprintf("%q", b)
}

// linesOf is texts as lines.
func linesOf(texts ...string) [][]byte {
	var l [][]byte
	for _, s := range texts {
		l = append(l, []byte(s))
	}
	return l
}

// TestPkt: 12.1, lines and what is written of them; and read again.
func TestPkt(t *testing.T) {
	long := strings.Repeat("x", api.MaxPkt)
	for _, c := range []struct {
		want string
		l    [][]byte
	}{
		{"", nil},
		{"", [][]byte{}},
		{"0000", [][]byte{nil}},
		{"0000", linesOf("")},
		{"00000000", [][]byte{nil, {}}},
		{"0005a", linesOf("a")},
		{"0005\n", linesOf("\n")},
		{"0005\x00", linesOf("\x00")},
		{"0006\xff\xfe", linesOf("\xff\xfe")},
		{"000f0123456789\n0000", linesOf("0123456789\n", "")},
		{"0010abcdefghijkl", linesOf("abcdefghijkl")},
		{"00000005a00000006bc0000", linesOf("", "a", "", "bc", "")},
		{"0008000000000008000400060a", linesOf("0000", "", "0004", "0a")},
		{"03ec" + long, linesOf(long)},
		{"03eb" + long[1:] + "03ec" + long + "0000", linesOf(long[1:], long, "")},
	} {
		b, err := wire.Pkt(c.l)
		wrote(t, fmt.Sprintf("Pkt(%.99q)", c.l), b, err, c.want)
		l, err := wire.Lines(b)
		if err != nil || !sameLines(l, c.l) {
			t.Errorf("Lines(%.99q): %.99q, %v", b, l, err)
		}
	}
}

// TestEachSize: 12.1, lines of all sizes that there are, and of some that there are not.
func TestEachSize(t *testing.T) {
	for n := range api.MaxPkt + 50 {
		line := bytes.Repeat([]byte("0"), n)
		want := fmt.Sprintf("%04x%s", n+4, line)
		if n == 0 {
			want = "0000"
		}
		b, err := wire.Pkt([][]byte{{'a'}, line, {'b'}})
		l, errLines := wire.Lines([]byte("0005a" + want + "0005b"))
		if n > api.MaxPkt {
			if api.Tell(err) != api.ErrWire || len(b) != 0 || api.Tell(errLines) != api.ErrWire || len(l) != 0 {
				t.Errorf("%d bytes: %.9q, %v; %.9q, %v", n, b, err, l, errLines)
			}
			continue
		}
		if err != nil || string(b) != "0005a"+want+"0005b" || errLines != nil || !sameLines(l, [][]byte{{'a'}, line, {'b'}}) {
			t.Errorf("%d bytes: %.9q, %v; %.9q, %v", n, b, err, l, errLines)
		}
	}
}

// TestLongLines: 12.1, a line of more than MaxPkt bytes, wherever it stands.
func TestLongLines(t *testing.T) {
	for _, n := range []int{api.MaxPkt + 1, 65531, 65532, 1 << 20} {
		long := make([]byte, n)
		for _, l := range [][][]byte{{long}, {long, nil}, {nil, long}, {{1}, long, {2}}, {long, long}} {
			if b, err := wire.Pkt(l); api.Tell(err) != api.ErrWire || len(b) != 0 {
				t.Errorf("%d bytes: %.9q, %v", n, b, err)
			}
		}
	}
}

// TestNoLines: 12.1, bytes that are not just packet lines, alone and behind some.
func TestNoLines(t *testing.T) {
	for _, front := range []string{"", "0000", "0005a", "0006a\n0000", "0008000000000005\n"} {
		for _, s := range noLines(front) {
			if l, err := wire.Lines([]byte(s)); api.Tell(err) != api.ErrWire || len(l) != 0 {
				t.Errorf("Lines(%s): %.99q, %v", brief(s), l, err)
			}
		}
	}
	all := "0005a" + "0000" + "0010abcdefghijkl" + "03ec" + strings.Repeat("y", 1000) + "0000"
	ends := map[int]bool{0: true, 5: true, 9: true, 25: true, 1029: true}
	for i, s := range without(all) {
		if _, err := wire.Lines([]byte(s)); err == nil != ends[i] || err != nil && api.Tell(err) != api.ErrWire {
			t.Errorf("Lines, cut at %d: %v", i, err)
		}
	}
}

// plainSizes is what stands ahead of lines, and how many bytes they have: a list of all that there is.
func plainSizes() map[string]int {
	m := map[string]int{"0000": 0}
	for n := 1; n <= 1000; n++ {
		m[fmt.Sprintf("%04x", n+4)] = n
	}
	return m
}

// TestDigits: 12.1, each byte as each of the four digits.
func TestDigits(t *testing.T) {
	room := strings.Repeat("x", api.MaxPkt)
	lines := plainSizes()
	for _, size := range []string{"0000", "0005", "000f", "001a", "00a0", "00ff", "0100", "0300", "03ec"} {
		for at := range 4 {
			for c := range 256 {
				text := size[:at] + string([]byte{byte(c)}) + size[at+1:]
				n, right := lines[text]
				l, err := wire.Lines([]byte(text + room[:n]))
				if !right && (api.Tell(err) != api.ErrWire || len(l) != 0) || right && (err != nil || len(l) != 1 || len(l[0]) != n) {
					t.Errorf("Lines(%q and %d bytes): %.9q, %v", text, n, l, err)
				}
			}
		}
	}
}

// TestManyLines: P1, more lines than anything that is said has, and more of noise.
func TestManyLines(t *testing.T) {
	const many = 1000000
	b := bytes.Repeat([]byte("0000"), many)
	if l, err := wire.Lines(b); err != nil || len(l) != many {
		t.Errorf("%d, %v", len(l), err)
	}
	if got, err := wire.Pkt(make([][]byte, many)); err != nil || !bytes.Equal(got, b) {
		t.Errorf("%d bytes, %v", len(got), err)
	}
	if l, err := wire.Lines(append(b, '0')); api.Tell(err) != api.ErrWire || len(l) != 0 {
		t.Errorf("%d, %v", len(l), err)
	}
}
