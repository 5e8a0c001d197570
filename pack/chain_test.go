package pack_test

import (
	"slices"
	"strings"
	"testing"

	"gitlike/api"
	"gitlike/delta"
)

// grown is the object that n deltas make of an empty one, each of which adds a byte.
func grown(n int) api.Object { return blob(strings.Repeat("x", n)) }

// byFar is an empty blob and n deltas, each on the one ahead of it.
func byFar(n int) [][]byte {
	entries := [][]byte{plain(grown(0))}
	for i := range n {
		entries = append(entries, away(len(entries[i]), delta.Make(grown(i).Data, grown(i+1).Data)))
	}
	return entries
}

// byNames is the same, where each tells its base by its id.
func byNames(t *testing.T, n int) [][]byte {
	entries := [][]byte{plain(grown(0))}
	for i := range n {
		entries = append(entries, on(t, grown(i), grown(i+1)))
	}
	return entries
}

// growing is the objects of both.
func growing(n int) []api.Object {
	var l []api.Object
	for i := range n + 1 {
		l = append(l, grown(i))
	}
	return l
}

// backwards is a list from its end on.
func backwards[T any](l []T) []T {
	l = slices.Clone(l)
	slices.Reverse(l)
	return l
}

// TestChains: 5.3, MaxChain deltas one on another, and one more.
func TestChains(t *testing.T) {
	for n := range api.MaxChain + 1 {
		reads(t, "by distances", packed(byFar(n)...), nil, growing(n)...)
		reads(t, "by ids", packed(byNames(t, n)...), nil, growing(n)...)
		reads(t, "by ids, ahead", packed(backwards(byNames(t, n))...), nil, backwards(growing(n))...)
	}
	for _, n := range []int{api.MaxChain + 1, api.MaxChain + 2, 50} {
		refused(t, "by distances", packed(byFar(n)...), nil, api.ErrPack)
		refused(t, "by ids", packed(byNames(t, n)...), nil, api.ErrPack)
	}
	const over = api.MaxChain + 1
	refused(t, "by ids, ahead", packed(backwards(byNames(t, over))...), nil, api.ErrPack)
	mixed := append(byFar(over)[:10], byNames(t, over)[10:]...)
	refused(t, "by both", packed(mixed...), nil, api.ErrPack)
	reads(t, "by both, one less", packed(mixed[:over]...), nil, growing(over-1)...)
}

// TestChainsOnBases: 5.3, what is among the bases is no delta.
func TestChainsOnBases(t *testing.T) {
	const most = api.MaxChain
	bases := growing(0)
	reads(t, "MaxChain on a base", packed(byNames(t, most)[1:]...), bases, growing(most)[1:]...)
	refused(t, "one more on a base", packed(byNames(t, most+1)[1:]...), bases, api.ErrPack)
	all := byNames(t, most+1)
	reads(t, "what the last one stands on is a base too", packed(all...), []api.Object{grown(most)}, growing(most+1)...)
	reads(t, "one in the middle is a base too", packed(all...), []api.Object{grown(7)}, growing(most+1)...)
	refused(t, "by distances bases are not asked", packed(byFar(most+1)...), growing(most+1), api.ErrPack)
	reads(t, "long, on many bases", packed(byNames(t, 100)...), growing(100), growing(100)...)
}

// TestLongerThanChains: 5.4, an entry on one that too many deltas stand under is on none: that one is no object, and is not there.
func TestLongerThanChains(t *testing.T) {
	const over = api.MaxChain + 1
	l := byNames(t, over+1)
	refused(t, "behind", packed(l...), nil, api.ErrPack)
	refused(t, "ahead", packed(backwards(l)...), nil, api.ErrBase)
	refused(t, "ahead of the one that is too much", packed(append(l[over+1:], l[:over+1]...)...), nil, api.ErrBase)
	refused(t, "behind the one that is too much", packed(append(l[over:over+1], append(l[over+1:], l[:over]...)...)...), nil, api.ErrPack)
}

// TestNamedBases: 5.1 and 5.4, where the base of an entry of kind 7 may be.
func TestNamedBases(t *testing.T) {
	abc, abcd, other := blob("abc"), blob("abcd"), blob("other")
	delta := on(t, abc, abcd)
	reads(t, "ahead", packed(plain(abc), delta), nil, abc, abcd)
	reads(t, "behind", packed(delta, plain(abc)), nil, abcd, abc)
	reads(t, "a base", packed(delta), []api.Object{abc}, abcd)
	reads(t, "one of many bases", packed(delta), []api.Object{other, abcd, abc, other, abc}, abcd)
	reads(t, "in the pack and a base", packed(delta, plain(abc)), []api.Object{abc}, abcd, abc)
	reads(t, "bases that nobody asks for", packed(plain(abc)), []api.Object{other, abc}, abc)
	reads(t, "what it makes is a base", packed(delta, plain(abc)), []api.Object{abcd}, abcd, abc)
	refused(t, "nowhere", packed(delta), nil, api.ErrBase)
	refused(t, "nowhere among bases", packed(delta), []api.Object{other, abcd}, api.ErrBase)
	refused(t, "nowhere in the pack", packed(plain(other), delta), nil, api.ErrBase)
	refused(t, "of another kind", packed(delta), []api.Object{{Kind: api.Tree, Data: abc.Data}}, api.ErrBase)
}

// TestOnItself: 5.4, what stands on itself is not there.
func TestOnItself(t *testing.T) {
	abc, abcd, abcde := blob("abc"), blob("abcd"), blob("abcde")
	itself := on(t, abc, abc)
	refused(t, "itself", packed(itself), nil, api.ErrBase)
	refused(t, "itself, behind another one", packed(plain(abcd), itself), nil, api.ErrBase)
	reads(t, "itself, among bases", packed(itself), []api.Object{abc}, abc)
	refused(t, "itself, which is there too", packed(itself, plain(abc)), nil, api.ErrPack)
	there, back := on(t, abc, abcd), on(t, abcd, abc)
	refused(t, "each other", packed(there, back), nil, api.ErrBase)
	refused(t, "each other, the other way", packed(back, there), nil, api.ErrBase)
	reads(t, "each other, the one a base", packed(there, back), []api.Object{abc}, abcd, abc)
	refused(t, "one that stands on each other", packed(on(t, abcd, abcde), there, back), nil, api.ErrBase)
	far := away(len(back), delta.Make(abc.Data, abcd.Data))
	refused(t, "each other, by a distance", packed(back, far), nil, api.ErrBase)
	reads(t, "each other, by a distance, one a base", packed(back, far), []api.Object{abcd}, abc, abcd)
	refused(t, "three in a ring", packed(there, on(t, abcd, abcde), on(t, abcde, abc)), nil, api.ErrBase)
}

// TestBasesThatDoNotCount: 5.4, a kind that is none, and too many bytes.
func TestBasesThatDoNotCount(t *testing.T) {
	abc, abcd := blob("abc"), blob("abcd")
	delta := on(t, abc, abcd)
	for _, kind := range []api.Kind{0, 5, 6, 7, -1, 1 << 40, -1 << 63} {
		bad := api.Object{Kind: kind, Data: abc.Data}
		refused(t, "no kind", packed(delta), []api.Object{bad}, api.ErrBase)
		refused(t, "no kind, and an id of nought", packed(named(api.ID{}, []byte{3, 1, 0x90, 1})), []api.Object{bad}, api.ErrBase)
		reads(t, "no kind beside a right one", packed(delta), []api.Object{bad, abc, bad}, abcd)
	}
	most := blob(strings.Repeat("y", api.MaxBlob))
	reads(t, "MaxBlob", packed(on(t, most, abc)), []api.Object{most}, abc)
	long := blob(strings.Repeat("y", api.MaxBlob+1))
	// What its id would be, if it could have one.
	id := api.ID(summed([]byte("blob 100001\x00" + string(long.Data)))[len("blob 100001\x00")+len(long.Data):])
	entry := named(id, []byte{0xa1, 0x8d, 6, 1, 0x90, 1})
	refused(t, "MaxBlob and one more", packed(entry), []api.Object{long}, api.ErrBase)
	refused(t, "MaxBlob and one more, and an id of nought", packed(named(api.ID{}, []byte{0xa1, 0x8d, 6, 1, 0x90, 1})), []api.Object{long}, api.ErrBase)
	reads(t, "too long beside a right one", packed(delta), []api.Object{long, abc}, abcd)
}

// TestFirstOfMany: 5.4, the first entry that has no object tells the error; but what 5.1 says comes ahead of it, and the same object twice behind it.
func TestFirstOfMany(t *testing.T) {
	abc, abcd := blob("abc"), blob("abcd")
	one := plain(abc)
	nowhere := on(t, blob("nowhere"), abcd)
	none := named(idOf(t, abc), []byte{4, 0})
	noneAway := away(len(one), []byte{4, 0})
	refused(t, "a delta that is none, by an id", packed(one, none), nil, api.ErrPack)
	refused(t, "a delta that is none, by a distance", packed(one, noneAway), nil, api.ErrPack)
	refused(t, "a delta that is none, on a base", packed(none), []api.Object{abc}, api.ErrPack)
	refused(t, "a delta that is none, its base nowhere", packed(none), nil, api.ErrBase)
	refused(t, "an empty delta", packed(one, away(len(one), nil)), nil, api.ErrPack)
	refused(t, "nowhere ahead of none", packed(nowhere, one, none), nil, api.ErrBase)
	refused(t, "none ahead of nowhere", packed(none, one, nowhere), nil, api.ErrPack)
	refused(t, "nowhere, and twice the same", packed(one, one, nowhere), nil, api.ErrBase)
	refused(t, "nowhere, and a distance to nowhere", packed(nowhere, one, away(3, nil)), nil, api.ErrPack)
	refused(t, "nowhere, and bytes behind", telling(1, nowhere, []byte{0}), nil, api.ErrPack)
	b := packed(nowhere)
	b[len(b)-1]++
	refused(t, "nowhere, and a wrong sum", b, nil, api.ErrPack)
	onNone := on(t, abcd, blob("abcde"))
	refused(t, "on one that is none", packed(one, none, onNone), nil, api.ErrPack)
	refused(t, "on one that is none, behind", packed(onNone, one, none), nil, api.ErrBase)
	refused(t, "on one that is nowhere's", packed(onNone, nowhere), nil, api.ErrBase)
	refused(t, "by a distance on one that is nowhere's", packed(nowhere, away(len(nowhere), []byte{4, 0})), nil, api.ErrBase)
}

// TestTwice: 5.4, two entries that are the same object.
func TestTwice(t *testing.T) {
	abc, abcd := blob("abc"), blob("abcd")
	one, two := plain(abc), on(t, abc, abcd)
	refused(t, "the same bytes", packed(one, one), nil, api.ErrPack)
	refused(t, "other bytes", packed(one, join([]byte{0x33}, stored(abc.Data))), nil, api.ErrPack)
	refused(t, "by a delta", packed(one, two, plain(abcd)), nil, api.ErrPack)
	refused(t, "by two deltas", packed(one, two, two), nil, api.ErrPack)
	refused(t, "on bases", packed(two, two), []api.Object{abc}, api.ErrPack)
	tree := api.Object{Kind: api.Tree, Data: abc.Data}
	reads(t, "of two kinds", packed(one, plain(tree)), nil, abc, tree)
	reads(t, "one of them a base", packed(one), []api.Object{abc, abc}, abc)
	// The same object by a long way and by a short one: a delta on it can be worked out, so that all that is wrong is what is there twice.
	long := append(byNames(t, api.MaxChain), plain(grown(api.MaxChain)))
	refused(t, "by a long way", packed(append(long, on(t, grown(api.MaxChain), abc), on(t, blob("nowhere"), abcd))...), nil, api.ErrBase)
}
