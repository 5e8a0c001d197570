package stage_test

import (
	"bytes"
	"crypto/sha1"
	"encoding/hex"
	"math"
	"math/rand"
	"slices"
	"strings"
	"testing"

	"gitlike/api"
	"gitlike/stage"
)

// TestManyEntries: 8.2, how many there may be.
func TestManyEntries(t *testing.T) {
	b := written(t, many(api.MaxEntries))
	if l, err := stage.Read(b); err != nil || !slices.Equal(l, many(api.MaxEntries)) {
		t.Errorf("Read: %d, %v", len(l), err)
	}
	refused(t, "one too many", many(api.MaxEntries+1), api.ErrStage)
	refused(t, "far too many", many(50000), api.ErrStage)
}

// TestModes: 8.2.
func TestModes(t *testing.T) {
	for _, m := range []api.Mode{api.FileMode, api.ExecMode, api.LinkMode} {
		written(t, []api.Entry{{Path: "a", Mode: m}})
	}
	for _, m := range []api.Mode{0, 1, -1, api.DirMode, 0o160000, 0o644, 0o100664, 0o100645, 0o120755, 100644, 100755, 120000, 40000, -api.FileMode, api.FileMode + 1<<32, math.MaxInt, math.MinInt} {
		refused(t, "a mode", []api.Entry{{Path: "a", Mode: m}, of("b", 0)}, api.ErrStage)
	}
}

// TestFileSizes: 8.2.
func TestFileSizes(t *testing.T) {
	for _, n := range []int{0, 1, 255, 256, 65536, api.MaxBlob - 1, api.MaxBlob} {
		written(t, []api.Entry{{Path: "a", Mode: file, Size: n}})
	}
	for _, n := range []int{-1, api.MaxBlob + 1, 1 << 32, 1<<32 + 1, -1 << 32, math.MaxInt, math.MinInt} {
		refused(t, "a size", []api.Entry{{Path: "a", Mode: file, Size: n}, of("b", 0)}, api.ErrStage)
	}
}

// TestStages: 8.2.
func TestStages(t *testing.T) {
	for n := range 4 {
		written(t, []api.Entry{of("a", n)})
	}
	for _, n := range []int{-1, 4, 5, 15, 16, 17, -4, 1 << 32, math.MaxInt, math.MinInt} {
		refused(t, "a stage", []api.Entry{of("a", n), of("b", 0)}, api.ErrStage)
	}
}

// TestStagesOfOnePath: 8.2, all sets of entries of one path, with others ahead and behind.
func TestStagesOfOnePath(t *testing.T) {
	for set := range 1 << 8 {
		l := all("0", "z", "a.", "a0")
		var has [4]int
		for i := range 8 {
			if set>>i&1 == 1 {
				e := of("a", i%4)
				e.ID[0] = byte(i) // another id, size or mode makes no other entry
				e.Size = i
				l = append(l, e)
				has[i%4]++
			}
		}
		right := slices.Max(has[:]) <= 1 && (has[0] == 0 || has[1]+has[2]+has[3] == 0)
		if right {
			written(t, l)
		} else {
			refused(t, "stages", l, api.ErrStage)
		}
	}
	refused(t, "just the same", all("a", "a"), api.ErrStage)
	refused(t, "far apart", all("a", "a.b", "b", "0", "a"), api.ErrStage)
	written(t, []api.Entry{of("a", 1), of("b", 1), of("c", 0), of("b", 2), of("a", 3)})
}

// TestPathsThatAreDirectories: 8.2, with others between the two in order.
func TestPathsThatAreDirectories(t *testing.T) {
	for _, l := range [][]string{
		{"a", "a/b"},
		{"a", "a.b", "a/b"},
		{"a", "a b", "a!", "a-", "a.", "a/b", "a0"},
		{"a", "a.b/c", "a.b/d", "a/b/c"},
		{"a/b", "a/b/c"},
		{"a/b", "a/b.c", "a/b/c/d/e"},
		{"a", "a/b/c/d/e"},
		{"a/b/c/d", "a/b/c/d/e"},
		{"a/b/c", "a/b.c", "a/b/c.d", "a/b/c/d"},
		{"0", "a", "a\x01", "a\n", "a/\xff", "a0", "aa", "b/a"},
		{"\xff", "\xff/\xff"},
		{deepest[:97], deepest},
		{fifty, hundred},
	} {
		refused(t, strings.Join(l, " "), all(l...), api.ErrPath)
		for _, n := range []int{1, 2, 3} { // whatever the stages are
			e := all(l...)
			e[0].Stage = n
			refused(t, "with a stage", e, api.ErrPath)
			e[len(e)-1].Stage = 3
			refused(t, "with two stages", e, api.ErrPath)
		}
	}
	for _, l := range [][]string{
		{"a", "ab/c"},
		{"a", "a.b", "a0", "a.b0/c", "aa/a"},
		{"a/b", "a/bc/d", "a/b.c/d"},
		{"b", "a/b", "c/b", "a/c/b"},
		{"a/a/a", "a/a/b", "a/b"},
		{"A", "a/b"},
		{"a/b", "a/c"},
		{"b/a", "a"},
	} {
		written(t, all(l...))
	}
}

// TestFirstErrors: 8.3, which error is told where several are due.
func TestFirstErrors(t *testing.T) {
	bad := of("b", 0)
	bad.Mode = dir
	long := of("b", 0)
	long.Size = api.MaxBlob + 1
	for _, e := range []api.Entry{bad, long, of("b", 4), of("b", -1)} {
		refused(t, "a field, and no path", []api.Entry{e, of("", 0)}, api.ErrPath)
		refused(t, "a field, and a directory", []api.Entry{e, of("b/c", 0)}, api.ErrStage)
		refused(t, "a field, and another's directory", append(all("x", "x/y"), e), api.ErrStage)
		refused(t, "a field, and a stage", []api.Entry{e, of("x", 1)}, api.ErrStage)
	}
	refused(t, "twice, and no path", all("a", "a", "b/"), api.ErrPath)
	refused(t, "twice, and a directory", all("a", "a", "a/b"), api.ErrStage)
	refused(t, "stages, and a directory", []api.Entry{of("a/b", 0), of("a", 0), of("a", 1)}, api.ErrStage)
	refused(t, "too many, and no path", append(many(api.MaxEntries+1), of("..", 0)), api.ErrPath)
	refused(t, "too many, and a directory", append(many(api.MaxEntries), of("f100000/a", 0)), api.ErrStage)
	refused(t, "too many, and twice", append(many(api.MaxEntries), of("f100000", 0)), api.ErrStage)
	refused(t, "most, and a directory", append(many(api.MaxEntries-1), of("f100000/a", 0)), api.ErrPath)
	refused(t, "no path that is a directory", all("a/", "a//b"), api.ErrPath)
}

// TestWriteByHand: 8.3, an index whose bytes are written out here.
func TestWriteByHand(t *testing.T) {
	zeros := func(n int) string { return strings.Repeat("00", n) }
	id := func(x string) string { return strings.Repeat(x, 20) }
	want := "44495243" + "00000002" + "00000003" +
		zeros(24) + "000081a4" + zeros(8) + "00000000" + id("11") + "0003" + "612f63" + zeros(7) +
		zeros(24) + "0000a000" + zeros(8) + "000186a0" + id("22") + "1001" + "62" + zeros(1) +
		zeros(24) + "000081ed" + zeros(8) + "00000100" + id("33") + "3001" + "62" + zeros(1)
	front, _ := hex.DecodeString(want)
	b := written(t, []api.Entry{
		{Path: "b", Mode: api.ExecMode, ID: api.ID(bytes.Repeat([]byte{0x33}, 20)), Size: 256, Stage: 3},
		{Path: "a/c", Mode: api.FileMode, ID: api.ID(bytes.Repeat([]byte{0x11}, 20))},
		{Path: "b", Mode: api.LinkMode, ID: api.ID(bytes.Repeat([]byte{0x22}, 20)), Size: 100000, Stage: 1},
	})
	sum := sha1.Sum(front)
	if !bytes.Equal(b, append(front, sum[:]...)) {
		t.Errorf("%x", b)
	}
	b = written(t, nil)
	if hex.EncodeToString(b) != "444952430000000200000000"+"39d890139ee5356c7ef572216cebcd27aa41f9df" {
		t.Errorf("no entries: %x", b)
	}
}

// TestLengths: 8.3, paths of each length, and so each number of bytes 0 behind them.
func TestLengths(t *testing.T) {
	seen := map[int]int{}
	for n := 1; n <= api.MaxPath; n++ {
		path := (strings.Repeat("q", 47) + "/" + strings.Repeat("r", 40) + "/" + strings.Repeat("s", 20))[:n]
		if strings.HasSuffix(path, "/") {
			path = path[:n-1] + "t"
		}
		e := of(path, n%4)
		b := written(t, []api.Entry{e})
		zeros := len(b) - 12 - 62 - n - 20
		seen[zeros]++
		if zeros < 1 || zeros > 8 || (len(b)-12-20)%8 != 0 || !bytes.Equal(b, summed(body(e))) {
			t.Errorf("%d bytes: %x", n, b)
		}
	}
	if len(seen) != 8 {
		t.Errorf("%v", seen)
	}
}

// TestOrder: 8.2, entries in any order are written in theirs.
func TestOrder(t *testing.T) {
	l := append(all("a-b", "a.b", "a/b", "a/b.c", "a/bc/d", "a0b", "A", "\x01", "\xff", "é", "z", "10", "9", "a/b-/x", " ", "a b"), of("u", 3), of("u", 1), of("u", 2), of("u.v", 2), of("u.v", 1), of("t/u", 1), of("t/u", 3))
	want := summed(body(inOrder(l)...))
	r := rand.New(rand.NewSource(8))
	for range 50 {
		r.Shuffle(len(l), func(i, j int) { l[i], l[j] = l[j], l[i] })
		if !bytes.Equal(written(t, l), want) {
			t.Fatalf("%v", l)
		}
	}
	var paths []string
	got, _ := stage.Read(want)
	for _, e := range got {
		paths = append(paths, e.Path)
	}
	if strings.Join(paths, " ") != "\x01   10 9 A a b a-b a.b a/b a/b-/x a/b.c a/bc/d a0b t/u t/u u u u u.v u.v z é \xff" {
		t.Errorf("%q", paths)
	}
}
