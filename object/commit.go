package object

import (
	"slices"

	"gitlike/api"
	"gitlike/digest"
	"gitlike/person"
)

// WriteCommit writes a commit.
func WriteCommit(c api.CommitInfo) ([]byte, error) {
	if !isCommit(c) {
		return nil, api.ErrCommit
	}
	lines := []string{line("tree", digest.Hex(c.Tree))}
	for _, p := range c.Parents {
		lines = append(lines, line("parent", digest.Hex(p)))
	}
	lines = append(lines,
		line("author", person.Write(c.Author)),
		line("committer", person.Write(c.Committer)))
	return letter(c.Message, lines...), nil
}

// ReadCommit reads one.
func ReadCommit(b []byte) (api.CommitInfo, error) {
	return readBack(b, api.ErrCommit, commitOf, WriteCommit)
}

func isCommit(c api.CommitInfo) bool {
	return len(c.Parents) <= api.MaxParents && differ(c.Parents) &&
		person.CanWrite(c.Author) && person.CanWrite(c.Committer) && isMessage(c.Message)
}

func commitOf(text string) api.CommitInfo {
	r := reader{text}
	c := api.CommitInfo{Tree: r.id("tree")}
	for r.has("parent") {
		c.Parents = append(c.Parents, r.id("parent"))
	}
	c.Author = person.Read(r.field("author"))
	c.Committer = person.Read(r.field("committer"))
	r.line()
	c.Message = r.rest
	return c
}

// commitLinks tells the ids that a commit names.
func commitLinks(b []byte) ([]api.ID, error) {
	c, err := ReadCommit(b)
	if err != nil {
		return nil, err
	}
	return slices.Concat([]api.ID{c.Tree}, c.Parents), nil
}
