package object_test

import (
	"bytes"
	"math/rand"
	"slices"
	"testing"

	"gitlike/api"
	"gitlike/object"
)

// roomy is bytes with spare room behind them.
func roomy(s string) []byte {
	b := append([]byte(s), bytes.Repeat([]byte{0xa5}, 300)...)
	return b[:len(s)]
}

// isAsItWas wants bytes, and the room behind them, to be as roomy made them.
func isAsItWas(t *testing.T, b []byte, was string) {
	t.Helper()
	if string(b) != was || bytes.Count(b[len(b):len(b)+300], []byte{0xa5}) != 300 {
		t.Errorf("%q is changed", was)
	}
}

// TestBytesAreLeftAlone scribbles over what was handed in: what was answered is as it was.
func TestBytesAreLeftAlone(t *testing.T) {
	blob := roomy("some bytes")
	encoded, _ := object.Encode(api.Object{Kind: api.Blob, Data: blob})
	isAsItWas(t, blob, "some bytes")
	clear(blob)
	head := roomy("blob 10\x00some bytes")
	o, _ := object.Decode(head)
	isAsItWas(t, head, "blob 10\x00some bytes")
	clear(head)
	if string(encoded) != "blob 10\x00some bytes" || string(o.Data) != "some bytes" {
		t.Errorf("%q, %q", encoded, o.Data)
	}
	raw := entry("100644", "a", 9) + entry("40000", "b", 3)
	tree := roomy(raw)
	entries, _ := object.ReadTree(tree)
	links, _ := object.Links(api.Object{Kind: api.Tree, Data: tree})
	isAsItWas(t, tree, raw)
	clear(tree)
	if len(entries) != 2 || entries[0].Name != "a" || entries[1].ID != (api.ID{3}) || !slices.Equal(links, []api.ID{{9}, {3}}) {
		t.Errorf("%v, %v", entries, links)
	}
	commit := roomy(aCommit)
	c, _ := object.ReadCommit(commit)
	isAsItWas(t, commit, aCommit)
	clear(commit)
	if !same(c, plain(t)) {
		t.Errorf("%v", c)
	}
	tag := roomy(aTag)
	g, _ := object.ReadTag(tag)
	isAsItWas(t, tag, aTag)
	clear(tag)
	if g != plainTag() {
		t.Errorf("%v", g)
	}
}

// TestListsAreLeftAlone has entries and parents that are not in the order of their bytes, with room behind them.
func TestListsAreLeftAlone(t *testing.T) {
	l := []api.TreeEntry{of(api.FileMode, "b"), of(api.DirMode, "a"), of(api.FileMode, "c"), of(api.FileMode, "behind")}
	was := slices.Clone(l)
	b, _ := object.WriteTree(l[:3])
	if !slices.Equal(l, was) {
		t.Errorf("%v", l)
	}
	clear(l)
	if string(b) != entry("40000", "a", 1)+entry("100644", "b", 1)+entry("100644", "c", 1) {
		t.Errorf("%q", b)
	}
	parents := []api.ID{{7}, {1}, {5}}
	c := plain(t)
	c.Parents = parents[:2]
	object.WriteCommit(c)
	if !slices.Equal(parents, []api.ID{{7}, {1}, {5}}) {
		t.Errorf("%v", parents)
	}
}

// TestAnswersAreNew scribbles over an answer: the next one is as it should be.
func TestAnswersAreNew(t *testing.T) {
	for range 2 {
		c, _ := object.ReadCommit([]byte(aCommit))
		links, _ := object.Links(api.Object{Kind: api.Commit, Data: []byte(aCommit)})
		b, _ := object.WriteCommit(plain(t))
		if !same(c, plain(t)) || len(links) != 3 || links[1] != (api.ID{7}) || string(b) != aCommit {
			t.Fatalf("%v, %v, %q", c, links, b)
		}
		clear(c.Parents)
		clear(links[:cap(links)])
		clear(b[:cap(b)])
	}
}

// TestNoiseEnds has bytes that are nothing.
func TestNoiseEnds(t *testing.T) {
	r := rand.New(rand.NewSource(4))
	for range 3000 {
		b := make([]byte, r.Intn(200))
		r.Read(b)
		if _, err := object.Decode(b); api.Tell(err) != api.ErrHeader {
			t.Errorf("Decode of %q: %v", b, err)
		}
		for k, wrong := range map[api.Kind]api.Errno{api.Tree: api.ErrTree, api.Commit: api.ErrCommit, api.Tag: api.ErrTag} {
			if len(b) > 0 {
				wantWrong(t, k, b, wrong)
			}
		}
	}
}
