package object_test

import (
	"bytes"
	"crypto/sha1"
	"slices"
	"strconv"
	"strings"
	"testing"

	"gitlike/api"
	"gitlike/digest"
	"gitlike/object"
)

// named are the four kinds with their names.
func named() map[api.Kind]string {
	return map[api.Kind]string{api.Commit: "commit", api.Tree: "tree", api.Blob: "blob", api.Tag: "tag"}
}

// noKinds are numbers that are no kinds.
func noKinds() []api.Kind { return []api.Kind{0, -1, 5, 6, 7, 1 << 32, 1<<32 + 1, -1 << 63, 1<<63 - 1} }

// parse reads an id that is right.
func parse(t *testing.T, s string) api.ID {
	t.Helper()
	id, err := digest.Parse(s)
	if err != nil {
		t.Fatalf("%q: %v", s, err)
	}
	return id
}

// wantID wants bytes to have an id that another program told.
func wantID(t *testing.T, k api.Kind, b []byte, want string) api.ID {
	t.Helper()
	id, err := object.ID(api.Object{Kind: k, Data: b})
	if err != nil || digest.Hex(id) != want {
		t.Fatalf("%v of %q: %s, %v, not %s", k, b, digest.Hex(id), err, want)
	}
	return id
}

func TestKnownIDs(t *testing.T) {
	wantID(t, api.Blob, nil, "e69de29bb2d1d6434b8b29ae775ad8c2e48c5391")
	wantID(t, api.Blob, []byte{}, "e69de29bb2d1d6434b8b29ae775ad8c2e48c5391")
	wantID(t, api.Tree, nil, "4b825dc642cb6eb9a060e54bf8d69288fbee4904")
	wantID(t, api.Blob, []byte("hello world\n"), "3b18e512dba79e4c8300dd08aeb37f8e728b8dad")
}

// TestKnownHistory makes a tree, commits and tags whose ids another program told.
func TestKnownHistory(t *testing.T) {
	file := wantID(t, api.Blob, []byte("hello world\n"), "3b18e512dba79e4c8300dd08aeb37f8e728b8dad")
	empty := wantID(t, api.Tree, nil, "4b825dc642cb6eb9a060e54bf8d69288fbee4904")
	ann := api.Person{Name: "Ann B. Example", Mail: "ann@example.org", Time: 1700000000, Zone: 330}
	zoe := api.Person{Name: "Zoë", Mail: "zoe@example.org", Time: 1700000060, Zone: -720}
	write := func(b []byte, err error) []byte {
		t.Helper()
		if err != nil {
			t.Fatal(err)
		}
		return b
	}
	tree := wantID(t, api.Tree, write(object.WriteTree([]api.TreeEntry{
		{Mode: api.FileMode, Name: "a0", ID: file},
		{Mode: api.DirMode, Name: "a", ID: empty},
		{Mode: api.LinkMode, Name: "a.b", ID: file},
		{Mode: api.ExecMode, Name: "A", ID: file},
		{Mode: api.FileMode, Name: "a-", ID: file},
	})), "0c2900dd33b5692218f92191d0217a8601fb45a2")
	commit := func(want string, tree api.ID, message string, parents ...api.ID) api.ID {
		t.Helper()
		c := api.CommitInfo{Tree: tree, Parents: parents, Author: ann, Committer: zoe, Message: message}
		return wantID(t, api.Commit, write(object.WriteCommit(c)), want)
	}
	one := commit("8b6d4b7a0b25ef88f7c3946e7a7ff991e6c4dcc9", tree, "the first\n")
	two := commit("7e39538fd5ed484654291df2d4c7c6df31dbcf89", empty, "the second\n\nwith two lines", one)
	merge := commit("6cbfc5a3831cd0d8629ecc4406928d06f56b0b35", tree, "a merge\n", two, one)
	wantID(t, api.Tag, write(object.WriteTag(api.TagInfo{Target: merge, Kind: api.Commit, Name: "v1.0", Tagger: ann, Message: "a tag\n"})), "4803d6aa650ef6dbbaeea10094a0369db4835185")
	wantID(t, api.Tag, write(object.WriteTag(api.TagInfo{Target: tree, Kind: api.Tree, Name: "t/x_y-z", Tagger: api.Person{Name: "Zoe"}})), "a9f78c392c91807d44026e8af61e88f5237ecf20")
}

// TestHeaders has lengths of one digit to six, of each kind.
func TestHeaders(t *testing.T) {
	for k, name := range named() {
		for _, n := range []int{0, 1, 9, 10, 11, 99, 100, 999, 1000, 10000, api.MaxBlob - 1, api.MaxBlob} {
			o := api.Object{Kind: k, Data: bytes.Repeat([]byte{0, 'x'}, n/2+1)[:n]}
			want := append([]byte(name+" "+strconv.Itoa(n)+"\x00"), o.Data...)
			b, err := object.Encode(o)
			if err != nil || !bytes.Equal(b, want) {
				t.Fatalf("Encode of %d bytes as %s: %v", n, name, err)
			}
			id, err := object.ID(o)
			if err != nil || id != sha1.Sum(want) {
				t.Fatalf("ID of %d bytes as %s: %v", n, name, err)
			}
			got, err := object.Decode(want)
			if err != nil || got.Kind != k || !bytes.Equal(got.Data, o.Data) {
				t.Fatalf("Decode of %d bytes as %s: %v", n, name, err)
			}
		}
	}
}

// TestNoObjects has kinds that are none, too many bytes, and both: the kind is looked at first.
func TestNoObjects(t *testing.T) {
	long := make([]byte, api.MaxBlob+1)
	want := func(o api.Object, wrong api.Errno) {
		t.Helper()
		b, err := object.Encode(o)
		if b != nil || api.Tell(err) != wrong {
			t.Errorf("Encode of %d bytes of kind %d: %d, %v", len(o.Data), o.Kind, len(b), err)
		}
		id, err := object.ID(o)
		if id != (api.ID{}) || api.Tell(err) != wrong {
			t.Errorf("ID of %d bytes of kind %d: %v, %v", len(o.Data), o.Kind, id, err)
		}
	}
	for _, k := range noKinds() {
		want(api.Object{Kind: k}, api.ErrKind)
		want(api.Object{Kind: k, Data: long}, api.ErrKind)
	}
	for k := range named() {
		want(api.Object{Kind: k, Data: long}, api.ErrLong)
	}
}

// TestIDsDoNotLookAtBytes has bytes that are no tree, no commit, no tag.
func TestIDsDoNotLookAtBytes(t *testing.T) {
	for k, name := range named() {
		o := api.Object{Kind: k, Data: []byte("any")}
		id, err := object.ID(o)
		if err != nil || id != sha1.Sum([]byte(name+" 3\x00any")) {
			t.Errorf("%s: %v, %v", name, id, err)
		}
		if o, err := object.Decode([]byte(name + " 3\x00any")); err != nil || string(o.Data) != "any" {
			t.Errorf("%s: %v, %v", name, o, err)
		}
	}
}

func TestDecodeOfOtherBytes(t *testing.T) {
	for _, s := range []string{
		"", "\x00", "blob", "blob ", "blob 3", "blob 3abc", "blob 0", "3\x00abc", " 3\x00abc", "blob\x00", "blob\x003\x00abc",
		"blob 3\x00ab", "blob 3\x00abcd", "blob 4\x00abc", "blob 0\x00a", "blob 1\x00", "blob 13\x00abc",
		"blob 03\x00abc", "blob 003\x00abc", "blob 00\x00", "blob +3\x00abc", "blob -3\x00abc", "blob -0\x00", "blob +0\x00",
		"blob 3 \x00abc", "blob  3\x00abc", " blob 3\x00abc", "blob\t3\x00abc", "blob 3\n\x00abc", "blob 0x3\x00abc", "blob 1_0\x000123456789",
		"blob \x00", "blob \x00abc", "blob 3.0\x00abc", "blob 3e0\x00abc", "blob ３\x00abc", "blob three\x00abc",
		"Blob 3\x00abc", "BLOB 3\x00abc", "blobs 3\x00abc", "blo 3\x00abc", "xblob 3\x00abc", "tree  0\x00", "trees 0\x00", "commits 0\x00", "tags 0\x00", "ta 0\x00",
		"3 3\x00abc", "file 3\x00abc", "0 0\x00", "tag blob 3\x00abc",
		"blob 18446744073709551619\x00abc", "blob " + strings.Repeat("9", 5000) + "\x00abc", "blob " + strings.Repeat("0", 5000) + "3\x00abc",
		"blob 100001\x00" + strings.Repeat("x", 100001), "blob 100000\x00" + strings.Repeat("x", 100001), "blob 100000\x00" + strings.Repeat("x", 99999),
	} {
		o, err := object.Decode([]byte(s))
		if o.Kind != 0 || len(o.Data) != 0 || api.Tell(err) != api.ErrHeader {
			t.Errorf("Decode of %.30q: %v, %v", s, o.Kind, err)
		}
	}
}

// TestDecodeOfTurnedBytes turns each byte of a header into each other one: what is decoded is encoded the same again.
func TestDecodeOfTurnedBytes(t *testing.T) {
	for _, right := range []string{"blob 10\x000123456789", "tree 0\x00", "commit 1\x00x", "tag 3\x00a\x00b"} {
		for at := range right {
			for x := range 256 {
				b := []byte(right)
				b[at] = byte(x)
				o, err := object.Decode(b)
				if err == nil {
					again, err := object.Encode(o)
					if err != nil || !bytes.Equal(again, b) || at <= strings.IndexByte(right, 0) && b[at] != right[at] {
						t.Fatalf("%q: %v, %v", b, o, err)
					}
				} else if api.Tell(err) != api.ErrHeader || at > strings.IndexByte(right, 0) {
					t.Fatalf("%q: %v", b, err)
				}
			}
		}
	}
}

// wantLinks wants an object to be right, and to name these ids.
func wantLinks(t *testing.T, k api.Kind, b []byte, want ...api.ID) {
	t.Helper()
	o := api.Object{Kind: k, Data: b}
	if err := object.Check(o); err != nil {
		t.Errorf("Check of %q: %v", b, err)
	}
	if l, err := object.Links(o); err != nil || !slices.Equal(l, want) {
		t.Errorf("Links of %q: %v, %v", b, l, err)
	}
}

// wantWrong wants an object to be wrong.
func wantWrong(t *testing.T, k api.Kind, b []byte, wrong api.Errno) {
	t.Helper()
	o := api.Object{Kind: k, Data: b}
	if err := object.Check(o); api.Tell(err) != wrong {
		t.Errorf("Check of %.40q as %d: %v", b, k, err)
	}
	if l, err := object.Links(o); len(l) != 0 || api.Tell(err) != wrong {
		t.Errorf("Links of %.40q as %d: %v, %v", b, k, l, err)
	}
}

func TestLinks(t *testing.T) {
	wantLinks(t, api.Blob, nil)
	wantLinks(t, api.Blob, []byte("any"))
	wantLinks(t, api.Blob, []byte(aCommit))
	wantLinks(t, api.Blob, make([]byte, api.MaxBlob))
	wantLinks(t, api.Tree, nil)
	// One id of two entries is told twice, each in the order of the entries, not of the ids.
	wantLinks(t, api.Tree, []byte(entry("100644", "a", 9)+entry("40000", "b", 3)+entry("120000", "b0", 9)), api.ID{9}, api.ID{3}, api.ID{9})
	wantLinks(t, api.Commit, []byte(aCommit), parse(t, emptyTree), api.ID{7}, api.ID{1})
	wantLinks(t, api.Commit, []byte(strings.NewReplacer(parentOne, "", parentTwo, "").Replace(aCommit)), parse(t, emptyTree))
	// A tree's id may be that of a parent too: it is told for both.
	wantLinks(t, api.Commit, []byte(strings.Replace(aCommit, emptyTree, digest.Hex(api.ID{1}), 1)), api.ID{1}, api.ID{7}, api.ID{1})
	wantLinks(t, api.Tag, []byte(aTag), api.ID{2})
}

// TestWrongObjects has the errors in the order in which they are looked for.
func TestWrongObjects(t *testing.T) {
	long := make([]byte, api.MaxBlob+1)
	for _, k := range noKinds() {
		wantWrong(t, k, nil, api.ErrKind)
		wantWrong(t, k, []byte("any"), api.ErrKind)
		wantWrong(t, k, long, api.ErrKind)
	}
	for k := range named() {
		wantWrong(t, k, long, api.ErrLong)
	}
	for k, wrong := range map[api.Kind]api.Errno{api.Tree: api.ErrTree, api.Commit: api.ErrCommit, api.Tag: api.ErrTag} {
		wantWrong(t, k, []byte("any"), wrong)
		wantWrong(t, k, long[1:], wrong)
	}
	wantWrong(t, api.Commit, nil, api.ErrCommit)
	wantWrong(t, api.Tag, nil, api.ErrTag)
	tree := []byte(entry("100644", "a", 1))
	for k, b := range map[api.Kind][]byte{api.Tree: []byte(aCommit), api.Commit: []byte(aTag), api.Tag: tree} {
		wantWrong(t, k, b, map[api.Kind]api.Errno{api.Tree: api.ErrTree, api.Commit: api.ErrCommit, api.Tag: api.ErrTag}[k])
	}
}

// TestTreeLongerThanABlob has a tree that can be written, and read, and is too long for an object.
func TestTreeLongerThanABlob(t *testing.T) {
	var l []api.TreeEntry
	for i := range api.MaxEntries {
		l = append(l, api.TreeEntry{Mode: api.FileMode, Name: strings.Repeat("n", 46) + strconv.Itoa(1000+i), ID: api.ID{1}})
	}
	b, err := object.WriteTree(l)
	if err != nil || len(b) <= api.MaxBlob {
		t.Fatalf("%d bytes, %v", len(b), err)
	}
	if got, err := object.ReadTree(b); err != nil || !slices.Equal(got, l) {
		t.Errorf("ReadTree: %d, %v", len(got), err)
	}
	wantWrong(t, api.Tree, b, api.ErrLong)
	// The same, with as many entries as an object can have.
	l = l[:api.MaxBlob/len(entry("100644", l[0].Name, 1))]
	b, _ = object.WriteTree(l)
	if got, err := object.Links(api.Object{Kind: api.Tree, Data: b}); err != nil || len(got) != len(l) {
		t.Errorf("Links: %d, %v", len(got), err)
	}
}
