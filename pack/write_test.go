package pack_test

import (
	"bytes"
	"encoding/binary"
	"fmt"
	"math/rand"
	"slices"
	"strings"
	"testing"

	"gitlike/api"
	"gitlike/deflate"
	"gitlike/pack"
)

// most is how long a pack of objects may be, whatever they are.
func most(l []api.Object) int {
	n := 32
	for _, o := range l {
		n += 30 + len(deflate.Deflate(o.Data))
	}
	return n
}

// writes wants Write's pack to be read as it was, and to have at most so many bytes; likewise Thin's.
func writes(t *testing.T, name string, l []api.Object, length int) {
	t.Helper()
	b, err := pack.Write(l)
	if err != nil || len(b) > min(length, most(l)) {
		t.Errorf("%s: Write: %d bytes, at most %d, %v", name, len(b), min(length, most(l)), err)
	}
	reads(t, name, b, nil, l...)
	thins(t, name, l, nil, length)
}

// thins wants Thin's pack to be read as it was, with what need not be in it, and to have at most so many bytes.
func thins(t *testing.T, name string, l, has []api.Object, length int) {
	t.Helper()
	b, err := pack.Thin(l, has)
	if err != nil || len(b) > min(length, most(l)) {
		t.Errorf("%s: Thin: %d bytes, at most %d, %v", name, len(b), min(length, most(l)), err)
	}
	reads(t, name, b, has, l...)
}

// cannot wants both to answer that error, and nothing beside it.
func cannot(t *testing.T, name string, l []api.Object, want api.Errno) {
	t.Helper()
	if b, err := pack.Write(l); api.Tell(err) != want || len(b) != 0 {
		t.Errorf("%s: Write: %d bytes, %v for %v", name, len(b), err, want)
	}
	if b, err := pack.Thin(l, []api.Object{blob("abc")}); api.Tell(err) != want || len(b) != 0 {
		t.Errorf("%s: Thin: %d bytes, %v for %v", name, len(b), err, want)
	}
}

// different is so many blobs.
func different(n int) []api.Object {
	var l []api.Object
	for i := range n {
		l = append(l, blob(string(binary.BigEndian.AppendUint16(nil, uint16(i)))))
	}
	return l
}

// TestWrite: 5.6, ordinary objects and edges.
func TestWrite(t *testing.T) {
	r := rand.New(rand.NewSource(1))
	writes(t, "nothing", nil, 32)
	writes(t, "an empty one", []api.Object{blob("")}, 62)
	writes(t, "empty ones of all kinds", []api.Object{{Kind: 4}, {Kind: 2}, {Kind: 1}, {Kind: 3}}, 1000)
	writes(t, "MaxBlob", []api.Object{blob(string(noise(r, api.MaxBlob, 256)))}, 1<<30)
	a, b := noise(r, api.MaxBlob, 256), noise(r, api.MaxBlob, 256)
	writes(t, "MaxBlob, and nothing in common", []api.Object{blob(string(a)), blob(string(b)), blob("")}, 1<<30)
	writes(t, "MaxBlob, twice but for a byte", []api.Object{blob(string(a)), blob(string(a[1:]))}, 100200)
	data := []byte("of each kind the same bytes, so many that it would pay to copy them from another kind")
	writes(t, "all kinds", []api.Object{{Kind: 4, Data: data}, {Kind: 3, Data: data}, {Kind: 2, Data: data}, {Kind: 1, Data: data}}, 1000)
}

// TestWriteInBytes: the document's example, and that a pack is as 5.1 says.
func TestWriteInBytes(t *testing.T) {
	abc := blob("abc")
	b, err := pack.Write([]api.Object{abc})
	if want := packed(join([]byte{0x33}, deflate.Deflate([]byte("abc")))); err != nil || !bytes.Equal(b, want) {
		t.Errorf("% x, %v", b, err)
	}
	if b, err := pack.Write(nil); err != nil || !bytes.Equal(b, packed()) {
		t.Errorf("% x, %v", b, err)
	}
}

// TestCannotWrite: 5.6, the errors in their order.
func TestCannotWrite(t *testing.T) {
	abc := blob("abc")
	long := blob(strings.Repeat("x", api.MaxBlob+1))
	both := api.Object{Kind: 9, Data: long.Data}
	for _, kind := range []api.Kind{0, 5, 6, 7, 8, -1, 1<<63 - 1} {
		bad := api.Object{Kind: kind, Data: abc.Data}
		cannot(t, "a kind", []api.Object{bad}, api.ErrKind)
		cannot(t, "a kind behind", []api.Object{abc, bad}, api.ErrKind)
		cannot(t, "a kind ahead of a length", []api.Object{abc, bad, long}, api.ErrKind)
		cannot(t, "a length ahead of a kind", []api.Object{abc, long, bad}, api.ErrLong)
		cannot(t, "a kind, and one twice", []api.Object{abc, abc, bad}, api.ErrKind)
		cannot(t, "a kind twice", []api.Object{bad, bad}, api.ErrKind)
	}
	cannot(t, "both", []api.Object{both}, api.ErrKind)
	cannot(t, "a length", []api.Object{long}, api.ErrLong)
	cannot(t, "a length, and one twice", []api.Object{abc, abc, long}, api.ErrLong)
	cannot(t, "one twice", []api.Object{abc, abc}, api.ErrPack)
	cannot(t, "one twice, far away", append(different(300), blob("\x00\x00")), api.ErrPack)
	cannot(t, "an empty one twice", []api.Object{{Kind: api.Blob}, blob("")}, api.ErrPack)
}

// TestMaxObjects: 5.6, MaxObjects and one more.
func TestMaxObjects(t *testing.T) {
	l := different(api.MaxObjects + 1)
	writes(t, "MaxObjects", l[:api.MaxObjects], 1<<30)
	cannot(t, "MaxObjects and one more", l, api.ErrPack)
	cannot(t, "too many, and a kind", append(l, api.Object{}), api.ErrPack)
	l[7].Kind = 0
	cannot(t, "too many, and a kind ahead", l, api.ErrPack)
	cannot(t, "not too many, and a kind", l[:api.MaxObjects], api.ErrKind)
}

// shapes are bytes that are alike in many ways, and in none.
func shapes(r *rand.Rand, n int) [][]byte {
	comes := bytes.Repeat(noise(r, 1+r.Intn(60), 256), n)[:n]
	broken := changed(comes, n/2, 1)
	text := []byte(strings.Repeat("some words of a text, and more of them\n", n))[:n]
	return [][]byte{noise(r, n, 256), noise(r, n, 2), noise(r, n, 3), make([]byte, n), comes, broken, text}
}

// spots are places in n bytes: those near both ends, and some between.
func spots(r *rand.Rand, n int) []int {
	var l []int
	for i := range min(n, 6) {
		l = append(l, i, n-1-i, r.Intn(n))
	}
	slices.Sort(l)
	return slices.Compact(l)
}

// changed is bytes of which one is another.
func changed(b []byte, at int, by byte) []byte {
	b = bytes.Clone(b)
	b[at] ^= by
	return b
}

// TestOneByte: 5.6, objects that differ from the first one in a byte: each has at most 90 bytes.
func TestOneByte(t *testing.T) {
	r := rand.New(rand.NewSource(2))
	for _, n := range []int{1, 2, 10, 31, 32, 33, 63, 64, 65, 66, 100, 128, 255, 256, 257, 1000, 20000} {
		for i, b := range shapes(r, n) {
			kind := api.Kind(1 + r.Intn(4))
			l := []api.Object{{Kind: kind, Data: b}}
			for _, at := range spots(r, n) {
				l = append(l, api.Object{Kind: kind, Data: changed(b, at, 1)})
			}
			name := fmt.Sprint(n, " bytes, shape ", i)
			writes(t, name, l, 32+30+len(deflate.Deflate(b))+90*(len(l)-1))
			thins(t, name, l[1:], l[:1], 32+90*(len(l)-1))
			for _, o := range l[1:] {
				thins(t, name, []api.Object{o}, l[:1], 32+90)
			}
		}
	}
}

// TestOneByteOfMany: 5.6, as many as there may be.
func TestOneByteOfMany(t *testing.T) {
	r := rand.New(rand.NewSource(3))
	b := noise(r, 300, 256)
	l := []api.Object{{Kind: api.Tree, Data: b}}
	for i := range api.MaxObjects - 1 {
		l = append(l, api.Object{Kind: api.Tree, Data: changed(b, i%300, byte(1+i/300))})
	}
	writes(t, "many", l, 32+30+len(deflate.Deflate(b))+90*(len(l)-1))
	thins(t, "many", l[1:], l[:1], 32+90*(len(l)-1))
}

// TestOneByteBesideOthers: 5.6, what else is had does not hinder.
func TestOneByteBesideOthers(t *testing.T) {
	r := rand.New(rand.NewSource(4))
	b := noise(r, 5000, 256)
	var l []api.Object
	for at := range 30 {
		l = append(l, blob(string(changed(b, 100*at, 7))))
	}
	length := 32 + 30 + len(deflate.Deflate(b)) + 90*(len(l)-1)
	thins(t, "another one of that length", l, []api.Object{blob(string(noise(r, 5000, 256)))}, length)
	thins(t, "of another kind", l, []api.Object{{Kind: api.Tag, Data: b}}, length)
	thins(t, "of no kind", l, []api.Object{{Data: b}}, length)
	thins(t, "too long", l, []api.Object{blob(strings.Repeat("x", api.MaxBlob+1))}, length)
	thins(t, "among others", l, []api.Object{{Data: b}, {Kind: api.Tag, Data: b}, blob("x"), blob(string(b)), blob("y")}, 32+90*len(l))
}

// TestChainsAreNotTooLong: 5.6, each object is most like the one ahead of it, far more often than deltas may stand one on another.
func TestChainsAreNotTooLong(t *testing.T) {
	r := rand.New(rand.NewSource(5))
	b := noise(r, 3000, 256)
	var l []api.Object
	for i := range 200 {
		l = append(l, blob(string(b[:2000+5*i])))
	}
	writes(t, "growing", l, most(l)/2)
	slices.Reverse(l)
	writes(t, "shrinking", l, 32+30+3000+11+200*90)
	thins(t, "on one that is had", l[1:], l[:1], 32+200*90)
}

// TestThin: 5.6, deltas on what is had, and what is had that is sent too.
func TestThin(t *testing.T) {
	r := rand.New(rand.NewSource(6))
	var has, l []api.Object
	for i := range 20 {
		b := noise(r, 1000+10*i, 256)
		has = append(has, blob(string(b)))
		l = append(l, blob(string(b[:500])+"more"+string(b[500:])))
	}
	thins(t, "each on one", l, has, 32+20*90)
	thins(t, "what is had", has, has, 1<<30)
	thins(t, "both", append(slices.Clone(l), has...), has, 1<<30)
	b, _ := pack.Thin(l, has)
	refused(t, "without what is had", b, nil, api.ErrBase)
	refused(t, "without the last of it", b, has[:19], api.ErrBase)
	writes(t, "nothing is had", l, 1<<30)
}

// TestWriteAny: whatever is written is read as it was, and the same answer comes each time.
func TestWriteAny(t *testing.T) {
	r := rand.New(rand.NewSource(7))
	for range 300 {
		var all []api.Object
		seen := map[string]bool{}
		b := noise(r, 200, 1+r.Intn(5))
		for range r.Intn(60) {
			from := r.Intn(200)
			o := api.Object{Kind: api.Kind(1 + r.Intn(2)), Data: b[from : from+r.Intn(201-from)]}
			if key := fmt.Sprint(o); !seen[key] {
				seen[key] = true
				all = append(all, o)
			}
		}
		cut := r.Intn(len(all) + 1)
		writes(t, "any", all, 1<<30)
		thins(t, "any", all[:cut], all[cut:], 1<<30)
		one, _ := pack.Thin(all[:cut], all[cut:])
		two, _ := pack.Thin(all[:cut], all[cut:])
		if !bytes.Equal(one, two) {
			t.Fatal("another pack")
		}
	}
}
