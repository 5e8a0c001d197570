package graph_test

import (
	"testing"

	"gitlike/api"
)

// criss is commits of which d and e stand both on b and on c, as the document's example has it; f stands on d alone, g on all, and h and i aside.
func criss() []api.Node {
	return nodes("a 0", "b 1 a", "c 1 a", "d 2 bc", "e 3 cb", "f 4 d", "g 5 fea", "h 0", "i 1 h")
}

// TestReaches: 9.3, forth and back, of each pair.
func TestReaches(t *testing.T) {
	reach := map[string]string{"a": "a", "b": "ba", "c": "ca", "d": "dbca", "e": "ebca", "f": "fdbca", "g": "gfedcba", "h": "h", "i": "ih"}
	for from, all := range reach {
		for to := range reach {
			want := false
			for i := range len(all) {
				want = want || all[i:i+1] == to
			}
			reaches(t, criss(), id(from), id(to), want)
		}
	}
	reaches(t, nodes("a 0"), id("a"), id("a"), true)
	// Times mean nothing here.
	reaches(t, nodes("a 9", "b 0 a"), id("b"), id("a"), true)
	reaches(t, nodes("a 9", "b 0 a"), id("a"), id("b"), false)
	// Nor does it matter by which parent.
	for _, l := range [][]api.Node{nodes("a 0", "b 0", "c 0", "d 0 abc"), nodes("a 0", "b 0", "c 0", "d 0 cbacab")} {
		for _, p := range ids("abc") {
			reaches(t, l, id("d"), p, true)
			reaches(t, l, p, id("d"), false)
		}
		reaches(t, l, id("a"), id("c"), false)
	}
}

// TestReachesFar: the ends of a long row, and ids that differ in their last byte alone.
func TestReachesFar(t *testing.T) {
	l := row(2000)
	for _, c := range []struct {
		from, to int
		want     bool
	}{{1999, 0, true}, {0, 1999, false}, {1999, 1998, true}, {1998, 1999, false}, {0, 0, true}, {1999, 1999, true}, {1000, 1000, true}, {1, 0, true}, {0, 1, false}} {
		reaches(t, l, num(c.from), num(c.to), c.want)
	}
}

// TestBases: 9.3, which nodes, by their ids.
func TestBases(t *testing.T) {
	for _, c := range []struct {
		l          []api.Node
		a, b, want string
	}{
		{criss(), "d", "e", "bc"},
		{criss(), "b", "c", "a"},
		{criss(), "d", "d", "d"},
		{criss(), "a", "a", "a"},
		{criss(), "d", "b", "b"},
		{criss(), "d", "a", "a"},
		{criss(), "f", "e", "bc"},
		{criss(), "g", "e", "e"},
		{criss(), "g", "f", "f"},
		{criss(), "g", "c", "c"},
		{criss(), "d", "i", ""},
		{criss(), "a", "h", ""},
		{criss(), "h", "i", "h"},
		{nodes("a 0"), "a", "a", "a"},
		{nodes("a 0", "b 0"), "a", "b", ""},
		// A base is none, if another one reaches it, be it on a long way.
		{nodes("a 0", "b 1 a", "c 2 b", "d 3 ac", "e 3 ac"), "d", "e", "c"},
		{nodes("a 0", "b 1 a", "c 2 b", "d 3 ca", "e 3 ab"), "d", "e", "b"},
		{nodes("a 0", "b 1", "c 2 b", "d 3 ac", "e 3 ac"), "d", "e", "ac"},
		{nodes("a 0", "b 1", "c 2 b", "d 3 ac", "e 3 ab"), "d", "e", "ab"},
		// One side goes round: what lies between is none of the other one's.
		{nodes("a 0", "b 1 a", "c 2 b", "d 3 c", "e 1 a"), "d", "e", "a"},
		// Times mean nothing here, nor does the order of parents, nor a parent that is named twice.
		{nodes("a 9", "b 8 a", "c 7 a", "d 0 bc", "e 1 cb"), "d", "e", "bc"},
		{nodes("a 0", "b 1 a", "c 1 aa", "d 2 ccbb", "e 3 bccb"), "d", "e", "bc"},
		// Three bases, of nodes with three parents; and of ones that share two of them.
		{nodes("x 0", "c 1 x", "a 2 x", "b 3 x", "d 4 cab", "e 5 bca"), "d", "e", "abc"},
		{nodes("x 0", "c 1 x", "a 2 x", "b 3 x", "d 4 cab", "e 5 xac"), "d", "e", "ac"},
		// The ids rise, whatever the letters of the two are.
		{nodes("z 0", "y 0", "x 0", "a 1 zyx", "b 1 yzx"), "a", "b", "xyz"},
		// Criss-cross above criss-cross: the last ones count.
		{nodes("a 0", "b 0", "c 1 ab", "d 1 ab", "e 2 cd", "f 2 cd", "g 3 ef", "h 3 ef"), "g", "h", "ef"},
		{nodes("a 0", "b 0", "c 1 ab", "d 1 ab", "e 2 cd", "f 2 cd", "g 3 e", "h 3 f"), "g", "h", "cd"},
	} {
		bases(t, c.l, id(c.a), id(c.b), ids(c.want))
	}
}

// TestBasesMany: long rows, and many bases.
func TestBasesMany(t *testing.T) {
	bases(t, row(2000), num(1999), num(1000), nums(1000))
	bases(t, row(2000), num(1999), num(0), nums(0))
	bases(t, row(2000), num(1999), num(1999), nums(1999))
	l := []api.Node{{ID: api.ID{1}}, {ID: api.ID{2}}}
	var all []api.ID
	for i := range 1998 {
		l = append(l, api.Node{ID: num(i)})
		all = append(all, num(i))
	}
	l[0].Parents, l[1].Parents = all, turned(all)
	bases(t, l, api.ID{1}, api.ID{2}, all)
	l[1].Parents = all[1000:1500]
	bases(t, l, api.ID{1}, api.ID{2}, all[1000:1500])
	// Two rows that part at 500.
	l = row(2000)
	l[1000].Parents = nums(500)
	bases(t, l, num(1999), num(999), nums(500))
	bases(t, l, num(1000), num(501), nums(500))
	bases(t, l, num(1999), num(400), nums(400))
}

// TestReduce: 9.3, which nodes, each once, by their ids.
func TestReduce(t *testing.T) {
	for _, c := range []struct {
		l          []api.Node
		some, want string
	}{
		{nil, "", ""},
		{criss(), "", ""},
		{criss(), "a", "a"},
		{criss(), "g", "g"},
		{criss(), "aa", "a"},
		{criss(), "ggggg", "g"},
		{criss(), "bc", "bc"},
		{criss(), "cb", "bc"},
		{criss(), "cbcb", "bc"},
		{criss(), "abc", "bc"},
		{criss(), "abcd", "d"},
		{criss(), "cdab", "d"},
		{criss(), "abcde", "de"},
		{criss(), "abcdefghi", "gi"},
		{criss(), "ga", "g"},
		{criss(), "fe", "ef"},
		{criss(), "fec", "ef"},
		{criss(), "ah", "ah"},
		{criss(), "hia", "ai"},
		// What lies between two is none of some: the one reaches the other all the same.
		{nodes("a 0", "b 1 a", "c 2 b", "d 3 c"), "ad", "d"},
		{nodes("a 0", "b 1 a", "c 2 b", "d 3 c"), "da", "d"},
		{nodes("a 9", "b 8 a", "c 7 b", "d 0 c"), "acd", "d"},
		{nodes("a 0", "b 1 aa", "c 2 bab"), "ab", "b"},
		{nodes("z 0", "y 0", "x 0", "a 1 z"), "zyx", "xyz"},
		{nodes("z 0", "y 0", "x 0", "a 1 z"), "zyxa", "axy"},
	} {
		reduce(t, c.l, ids(c.some), ids(c.want))
	}
}

// TestReduceMany: all of a long row, of many that share nothing, and of one with many parents.
func TestReduceMany(t *testing.T) {
	l := row(2000)
	var all []api.ID
	for _, n := range l {
		all = append(all, n.ID)
	}
	reduce(t, l, all, nums(1999))
	reduce(t, l, append(all[:1000:1000], all[:1000]...), nums(999))
	reduce(t, l, nums(0, 1999, 1000), nums(1999))
	for i := range l {
		l[i].Parents = nil
	}
	reduce(t, l, all, all)
	reduce(t, l, append(turned(all), all...), all)
	l[7].Parents = append(all[:7:7], all[8:]...)
	reduce(t, l, all, nums(7))
	reduce(t, l, all[8:], all[8:])
}
