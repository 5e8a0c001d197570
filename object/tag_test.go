package object_test

import (
	"strings"
	"testing"

	"gitlike/api"
	"gitlike/object"
)

const aTag = "object 0200000000000000000000000000000000000000\ntype commit\ntag v1.0\ntagger Ann <ann@x> 1000000000 -0130\n\n"

// plainTag is what aTag says.
func plainTag() api.TagInfo {
	return api.TagInfo{Target: api.ID{2}, Kind: api.Commit, Name: "v1.0", Tagger: ann()}
}

// wantTag wants a tag to be written as these bytes, and these to be read as the tag.
func wantTag(t *testing.T, g api.TagInfo, want string) {
	t.Helper()
	if b, err := object.WriteTag(g); err != nil || string(b) != want {
		t.Errorf("WriteTag: %q, %v, not %q", b, err, want)
	}
	if got, err := object.ReadTag([]byte(want)); err != nil || got != g {
		t.Errorf("ReadTag of %q: %v, %v", want, got, err)
	}
}

// noTag wants a tag not to be written.
func noTag(t *testing.T, g api.TagInfo) {
	t.Helper()
	if b, err := object.WriteTag(g); b != nil || api.Tell(err) != api.ErrTag {
		t.Errorf("WriteTag of %.200v: %.200q, %v", g, b, err)
	}
}

// noTagBytes wants bytes to be no tag.
func noTagBytes(t *testing.T, s string) {
	t.Helper()
	if g, err := object.ReadTag([]byte(s)); g != (api.TagInfo{}) || api.Tell(err) != api.ErrTag {
		t.Errorf("ReadTag of %.300q: %.300v, %v", s, g, err)
	}
}

func TestTags(t *testing.T) {
	wantTag(t, plainTag(), aTag)
	for k, name := range named() {
		g := plainTag()
		g.Kind = k
		wantTag(t, g, strings.Replace(aTag, "commit", name, 1))
	}
	g := plainTag()
	g.Message = "a message\n\nof lines"
	wantTag(t, g, aTag+g.Message)
}

func TestTagKinds(t *testing.T) {
	for _, k := range noKinds() {
		g := plainTag()
		g.Kind = k
		noTag(t, g)
	}
	for _, name := range []string{"", " ", "Commit", "commits", "comm", "commit ", " commit", "1", "blobtree", "file", "type commit"} {
		noTagBytes(t, strings.Replace(aTag, "commit", name, 1))
	}
}

// TestTagNames has each byte alone, ahead of others and behind them.
func TestTagNames(t *testing.T) {
	for x := range 256 {
		c := byte(x)
		right := c >= 'a' && c <= 'z' || c >= 'A' && c <= 'Z' || c >= '0' && c <= '9' || c == '.' || c == '_' || c == '-' || c == '/'
		s := string([]byte{c})
		for _, name := range []string{s, s + "name", "name" + s, "na" + s + "me"} {
			g := plainTag()
			g.Name = name
			text := strings.Replace(aTag, "v1.0", name, 1)
			if right {
				wantTag(t, g, text)
			} else {
				noTag(t, g)
				noTagBytes(t, text)
			}
		}
	}
	for _, name := range []string{strings.Repeat("n", 59), strings.Repeat("n", 60), strings.Repeat("/", 60), "refs/tags/v1", "a//b", "..", ".git", "-", "commit", "tag"} {
		g := plainTag()
		g.Name = name
		wantTag(t, g, strings.Replace(aTag, "v1.0", name, 1))
	}
	for _, name := range []string{"", strings.Repeat("n", 61), strings.Repeat("n", 100000), "a b", " a", "a ", "é", "a\nb", strings.Repeat("é", 30), "\xff"} {
		g := plainTag()
		g.Name = name
		noTag(t, g)
		noTagBytes(t, strings.Replace(aTag, "v1.0", name, 1))
	}
}

// TestTagsThatAreTurned has aTag with one thing that is otherwise.
func TestTagsThatAreTurned(t *testing.T) {
	for _, turn := range [][2]string{
		{"object ", "objects "}, {"object ", "tree "}, {"object ", ""}, {"object ", "object  "}, {"object 02", "object 0"}, {"object 02", "object 002"}, {"object 02", "object 0A"}, {"object ", "\nobject "},
		{"type ", "types "}, {"type ", ""}, {"type ", "type  "}, {"type ", "kind "}, {"type commit\n", ""}, {"type commit\n", "type commit\ntype commit\n"},
		{"tag ", "tags "}, {"tag ", ""}, {"tag ", "tag  "}, {"tag v1.0\n", ""}, {"tag v1.0\n", "tag v1.0\ntag v1.0\n"}, {"tag v1.0", "tag"},
		{"tagger ", "taggers "}, {"tagger ", ""}, {"tagger ", "author "}, {"tagger ", "tagger  "}, {"tagger Ann <ann@x> 1000000000 -0130\n", ""},
		{"-0130\n\n", "-0130\n"}, {"-0130\n\n", "-0130\n \n"}, {"-0130\n\n", "-0130"}, {"-0130\n\n", "-0130\nmore\n\n"}, {"\ntype", "\r\ntype"}, {"\ntag ", "\n\ntag "},
		{"type commit\ntag v1.0\n", "tag v1.0\ntype commit\n"},
	} {
		s := strings.Replace(aTag, turn[0], turn[1], 1)
		if s == aTag {
			t.Fatalf("%q is not there", turn[0])
		}
		noTagBytes(t, s)
	}
	for n := range len(aTag) {
		noTagBytes(t, aTag[:n])
	}
	noTagBytes(t, aCommit)
	noTagBytes(t, strings.Repeat("\n", 1000))
}
