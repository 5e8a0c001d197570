package object

import (
	"strings"

	"gitlike/api"
	"gitlike/digest"
	"gitlike/person"
)

const tagNameSigns = "abcdefghijklmnopqrstuvwxyzABCDEFGHIJKLMNOPQRSTUVWXYZ0123456789._-/"

// WriteTag writes a tag.
func WriteTag(t api.TagInfo) ([]byte, error) {
	if !isTag(t) {
		return nil, api.ErrTag
	}
	return letter(t.Message,
		line("object", digest.Hex(t.Target)),
		line("type", kindName(t.Kind)),
		line("tag", t.Name),
		line("tagger", person.Write(t.Tagger))), nil
}

// ReadTag reads one.
func ReadTag(b []byte) (api.TagInfo, error) {
	return readBack(b, api.ErrTag, tagOf, WriteTag)
}

func isTag(t api.TagInfo) bool {
	return kindName(t.Kind) != "" && isTagName(t.Name) && person.CanWrite(t.Tagger) && isMessage(t.Message)
}

func isTagName(s string) bool {
	if s == "" || len(s) > api.MaxName {
		return false
	}
	return strings.Trim(s, tagNameSigns) == ""
}

func tagOf(text string) api.TagInfo {
	r := reader{text}
	t := api.TagInfo{Target: r.id("object")}
	t.Kind = kindOf(r.field("type"))
	t.Name = r.field("tag")
	t.Tagger = person.Read(r.field("tagger"))
	r.line()
	t.Message = r.rest
	return t
}

// tagLinks tells the id that a tag names.
func tagLinks(b []byte) ([]api.ID, error) {
	t, err := ReadTag(b)
	if err != nil {
		return nil, err
	}
	return []api.ID{t.Target}, nil
}
