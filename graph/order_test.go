package graph_test

import (
	"math"
	"slices"
	"testing"

	"gitlike/api"
)

// TestOrder: 9.2, which nodes, each once, and in which order.
func TestOrder(t *testing.T) {
	cross := nodes("a 0", "b 1 a", "c 1 a", "d 2 bc", "e 3 bc", "f 9")
	older := nodes("a 9", "b 1 a", "c 5 a", "d 0 b", "e 7")
	sides := nodes("a 0", "b 1 a", "c 2 b", "d 3 c", "p 1 a", "q 2 p", "r 3 q")
	for _, c := range []struct {
		l               []api.Node
		from, not, want string
	}{
		{nil, "", "", ""},
		{cross, "", "", ""},
		{cross, "a", "", "a"},
		{cross, "f", "", "f"},
		{cross, "aa", "", "a"},
		{cross, "d", "", "dcba"},
		{cross, "dd", "", "dcba"},
		{cross, "dcba", "", "dcba"},
		{cross, "de", "", "edcba"},
		{cross, "bc", "", "cba"},
		{cross, "fa", "", "fa"},
		{cross, "fd", "", "fdcba"},
		// What is left out: all that not reaches, be it asked for or not.
		{cross, "", "d", ""},
		{cross, "", "abcdef", ""},
		{cross, "d", "d", ""},
		{cross, "a", "d", ""},
		{cross, "de", "d", "e"},
		{cross, "d", "e", "d"},
		{cross, "d", "b", "dc"},
		{cross, "d", "bc", "d"},
		{cross, "d", "bb", "dc"},
		{cross, "d", "a", "dcb"},
		{cross, "d", "f", "dcba"},
		{cross, "def", "f", "edcba"},
		{cross, "def", "a", "fedcb"},
		{sides, "dr", "", "rdqcpba"},
		{sides, "dr", "c", "rdqp"},
		{sides, "dr", "p", "rdqcb"},
		{sides, "dr", "cq", "rd"},
		{sides, "dr", "bp", "rdqc"},
		{sides, "d", "r", "dcb"},
		// Times that rise against the order of parents: a parent comes behind its children whatever its time is.
		{older, "dce", "", "ecdba"},
		{older, "dc", "", "cdba"},
		{older, "abcde", "", "ecdba"},
		{older, "d", "c", "db"},
		{older, "ad", "", "dba"},
		// What was held back comes at once, if it is the youngest then.
		{nodes("a 8 ", "b 1 a", "c 3", "d 2 a"), "bcd", "", "cdba"},
		{nodes("a 8", "b 5 a", "c 3", "d 2"), "bcd", "", "bacd"},
		// The last child lets its parent go, not the first one.
		{nodes("a 9", "b 5 a", "c 1 a", "d 3"), "bcd", "", "bdca"},
		// A parent that is named twice comes once.
		{nodes("a 0", "b 1 aa", "c 2 bab"), "c", "", "cba"},
		// Not is in the way between: what is below is left out on all ways.
		{nodes("a 0", "b 1 a", "c 2 b", "d 3 ac"), "d", "b", "dc"},
		{nodes("a 0", "b 1 a", "c 2 b", "d 3 ac", "e 4 a"), "d", "e", "dcb"},
		// A child that is left out holds nothing back.
		{nodes("a 0", "b 1 a", "c 2 b", "d 3 b"), "c", "d", "c"},
	} {
		order(t, c.l, ids(c.from), ids(c.not), ids(c.want))
	}
}

// TestOrderTimes: 9.2, the greatest time first, be it negative, or as far from the others as it can be.
func TestOrderTimes(t *testing.T) {
	for _, c := range []struct {
		l    []api.Node
		want string
	}{
		{nodes("a -1", "b -2", "c -3"), "abc"},
		{nodes("a -3", "b -2", "c -1"), "cba"},
		{nodes("a 0", "b -1", "c 1"), "cab"},
		{nodes("a 10", "b 9", "c 100"), "cab"},
		{nodes("a -9223372036854775808", "b 0", "c 9223372036854775807"), "cba"},
		{nodes("a 9223372036854775807", "b 0", "c -9223372036854775808"), "abc"},
		{nodes("a 9223372036854775807", "b 9223372036854775806", "c -1"), "abc"},
		{nodes("a 1099511627776", "b 4294967296", "c 4294967295"), "abc"},
		{nodes("a 0 b", "b 5 c", "c 9"), "abc"},
		{nodes("a -9223372036854775808 b", "b 9223372036854775807", "c 0"), "cab"},
	} {
		order(t, c.l, ids("abc"), nil, ids(c.want))
	}
}

// TestOrderIDs: 9.2, of equal times the greatest id first, by its bytes: of two that differ in their last byte alone, too, and bytes from 128 on are the greatest.
func TestOrderIDs(t *testing.T) {
	rising := []api.ID{{}, {19: 1}, {19: 0x7f}, {19: 0x80}, {19: 0xff}, {18: 1}, {1}, {1, 19: 1}, {1, 18: 1}, {0x7f}, {0x80}, {0xff}, {0xff, 19: 0xff}}
	for _, time := range []int64{0, -1, 5, math.MinInt64, math.MaxInt64} {
		var l []api.Node
		for _, id := range rising {
			l = append(l, api.Node{ID: id, Time: time})
		}
		order(t, l, rising, nil, turned(rising))
		order(t, l, rising[3:5], nil, turned(rising[3:5]))
		// A child with the least id comes first all the same.
		l[0].Parents = slices.Clone(rising[1:])
		order(t, l, rising[:1], nil, append(rising[:1:1], turned(rising[1:])...))
	}
}

// TestOrderLong: long rows, side by side.
func TestOrderLong(t *testing.T) {
	var down []api.ID
	for i := range 2000 {
		down = append(down, num(1999-i))
	}
	l := row(2000)
	order(t, l, nums(1999), nil, down)
	order(t, l, down, nil, down)
	order(t, l, nums(1999), nums(1000), down[:999])
	order(t, l, nums(1999), nums(0), down[:1999])
	order(t, l, nums(1000), nums(1999), nil)
	// Times rise down the row, and against it.
	for _, sign := range []int64{1, -1} {
		for i := range l {
			l[i].Time = sign * int64(i)
		}
		order(t, l, nums(1999), nil, down)
	}
	// Two rows of even and odd numbers, by turns as their times tell.
	l = row(2000)
	for i := range l {
		l[i].Time = int64(i)
		l[i].Parents = nil
		if i > 1 {
			l[i].Parents = nums(i - 2)
		}
	}
	order(t, l, nums(1999, 1998), nil, down)
	var even []api.ID
	for _, id := range down {
		if id[19]%2 == 0 {
			even = append(even, id)
		}
	}
	order(t, l, nums(1999, 1998), nums(1999), even)
	order(t, l, nums(1998), nums(1999), even)
}

// TestOrderWide: one node with 1999 parents, and 1999 nodes with one.
func TestOrderWide(t *testing.T) {
	l := []api.Node{{ID: num(0)}}
	var down []api.ID
	for i := range 1999 {
		n := 1999 - i
		l = append(l, api.Node{ID: num(n), Time: int64(n / 10)})
		l[0].Parents = append(l[0].Parents, num(n))
		down = append(down, num(n))
	}
	order(t, l, nums(0), nil, append(nums(0), down...))
	order(t, l, nums(0), nums(1999, 1), append(nums(0), down[1:1998]...))
	for i := range l {
		l[i].Parents = nil
		if i > 0 {
			l[i].Parents = nums(0)
		}
	}
	l[0].Time = 1 << 40
	order(t, l, down, nil, append(slices.Clone(down), num(0)))
	order(t, l, down, nums(1000), slices.DeleteFunc(slices.Clone(down), func(id api.ID) bool { return id == num(1000) }))
}
