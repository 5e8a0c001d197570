package merge_test

import (
	"fmt"
	"regexp"
	"slices"
	"strconv"
	"strings"
	"testing"

	"gitlike/api"
	"gitlike/idorder"
	"gitlike/merge"
	"gitlike/object"
)

// In what is wanted of Texts, a conflict is written as «ours‖theirs».
var conflict = regexp.MustCompile(`«([^«‖»]*)‖([^«‖»]*)»`)

// each is a text in which each letter is a line.
func each(s string) string {
	var b strings.Builder
	for _, r := range s {
		b.WriteRune(r)
		if !strings.ContainsRune("«‖»", r) {
			b.WriteByte('\n')
		}
	}
	return b.String()
}

// numbered is the lines of the numbers from the first one on, up to the end.
func numbered(first, end int) string {
	var b strings.Builder
	for i := first; i < end; i++ {
		fmt.Fprintln(&b, i)
	}
	return b.String()
}

// texts wants Texts to make that, also the other way round.
func texts(t *testing.T, base, ours, theirs, want string) {
	t.Helper()
	oneWay(t, base, ours, theirs, "A", "B", want)
	oneWay(t, base, theirs, ours, "B", "A", conflict.ReplaceAllString(want, "«$2‖$1»"))
}

func oneWay(t *testing.T, base, ours, theirs, a, b, want string) {
	t.Helper()
	n := strings.Count(want, "«")
	want = conflict.ReplaceAllString(want, "<<<<<<< "+a+"\n$1=======\n$2>>>>>>> "+b+"\n")
	got, conflicts := merge.Texts([]byte(base), []byte(ours), []byte(theirs), a, b)
	if string(got) != want || conflicts != n {
		t.Errorf("Texts(%s, %s, %s): %s, %d\nnot %s, %d", brief(base), brief(ours), brief(theirs), brief(string(got)), conflicts, brief(want), n)
	}
}

// brief is a text, quoted; of a long one its beginning.
func brief(s string) string {
	if len(s) > 200 {
		return fmt.Sprintf("%q.. (%d bytes)", s[:200], len(s))
	}
	return fmt.Sprintf("%q", s)
}

func blob(s string) api.Object { return api.Object{Kind: api.Blob, Data: []byte(s)} }

// idOf is the id of a blob of that text.
func idOf(s string) api.ID {
	id, err := object.ID(blob(s))
	if err != nil {
		panic(err)
	}
	return id
}

// file is a file of that text at a path.
func file(path, text string) api.Entry {
	return api.Entry{Path: path, Mode: api.FileMode, ID: idOf(text), Size: len(text)}
}

// Files are written as path#stage*~size:text, with @ for * where it is a link, and each letter of the text a line. Stage, sign and size may be missing.
var fileForm = regexp.MustCompile(`^([^#*@~:]+)(?:#([0-9]))?([*@]?)(?:~([0-9]+))?:(.*)$`)

// files reads a list of them, with blanks between.
func files(s string) []api.Entry {
	var l []api.Entry
	for _, one := range strings.Fields(s) {
		part := fileForm.FindStringSubmatch(one)
		e := file(part[1], each(part[5]))
		e.Stage, _ = strconv.Atoi(part[2])
		switch part[3] {
		case "*":
			e.Mode = api.ExecMode
		case "@":
			e.Mode = api.LinkMode
		}
		if part[4] != "" {
			e.Size, _ = strconv.Atoi(part[4])
		}
		l = append(l, e)
	}
	return l
}

// blobsOf is the texts of files, each once.
func blobsOf(lists ...string) []api.Object {
	var l []api.Object
	seen := map[string]bool{}
	for _, one := range strings.Fields(strings.Join(lists, " ")) {
		_, text, _ := strings.Cut(one, ":")
		if !seen[text] {
			seen[text] = true
			l = append(l, blob(each(text)))
		}
	}
	return l
}

// show is entries as a text, with the beginnings of their ids.
func show(l []api.Entry) string {
	var s []string
	for _, e := range l {
		s = append(s, fmt.Sprintf("%s#%d %o ~%d %x", e.Path, e.Stage, e.Mode, e.Size, e.ID[:3]))
	}
	return strings.Join(s, ", ")
}

func showBlobs(l []api.Object) string {
	var s []string
	for _, o := range l {
		s = append(s, fmt.Sprintf("%d %s", o.Kind, brief(string(o.Data))))
	}
	return strings.Join(s, ", ")
}

// tree is one case of Trees: the files of all three, what they come to, and the new texts (each letter a line).
type tree struct{ name, base, ours, theirs, want, made string }

// all is the blobs of all files that are handed in.
func (c tree) all() []api.Object { return blobsOf(c.base, c.ours, c.theirs) }

// back is the other way round.
func (c tree) back() tree {
	c.name += ", the other way round"
	c.ours, c.theirs = c.theirs, c.ours
	c.want = strings.NewReplacer("#2", "#3", "#3", "#2").Replace(c.want)
	return c
}

// check wants Trees to answer what the case says, in whatever order files and blobs are handed in.
func (c tree) check(t *testing.T, blobs []api.Object) {
	t.Helper()
	want := api.Merged{Entries: files(c.want)}
	slices.SortFunc(want.Entries, func(x, y api.Entry) int {
		if x.Path != y.Path {
			return strings.Compare(x.Path, y.Path)
		}
		return x.Stage - y.Stage
	})
	for _, s := range strings.Fields(c.made) {
		want.Blobs = append(want.Blobs, blob(each(s)))
	}
	slices.SortFunc(want.Blobs, func(x, y api.Object) int { return idorder.Compare(idOf(string(x.Data)), idOf(string(y.Data))) })
	base, ours, theirs := files(c.base), files(c.ours), files(c.theirs)
	blobs = slices.Clone(blobs)
	for range 2 {
		got, err := merge.Trees(base, ours, theirs, blobs)
		if err != nil || !sameMerged(got, want) {
			t.Errorf("%s: %s, %s, %v\nnot %s, %s", c.name, show(got.Entries), showBlobs(got.Blobs), err, show(want.Entries), showBlobs(want.Blobs))
		}
		slices.Reverse(base)
		slices.Reverse(ours)
		slices.Reverse(theirs)
		slices.Reverse(blobs)
	}
}

// bothWays is check, also the other way round.
func (c tree) bothWays(t *testing.T) {
	t.Helper()
	c.check(t, c.all())
	c.back().check(t, c.all())
}

func sameMerged(x, y api.Merged) bool {
	return slices.Equal(x.Entries, y.Entries) && slices.EqualFunc(x.Blobs, y.Blobs, func(a, b api.Object) bool {
		return a.Kind == b.Kind && string(a.Data) == string(b.Data)
	})
}

// refused wants Trees to answer that error, and nothing else.
func refused(t *testing.T, name string, base, ours, theirs []api.Entry, blobs []api.Object, want api.Errno) {
	t.Helper()
	got, err := merge.Trees(base, ours, theirs, blobs)
	if api.Tell(err) != want || len(got.Entries)+len(got.Blobs) != 0 {
		t.Errorf("%s: %s, %v, not %v", name, show(got.Entries), err, want)
	}
}
