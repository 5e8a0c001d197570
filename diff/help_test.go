package diff_test

import (
	"bytes"
	"fmt"
	"slices"
	"strings"
	"testing"

	"gitlike/api"
	"gitlike/diff"
	"gitlike/object"
)

// each is a text in which each letter is a line.
func each(s string) []byte {
	var b []byte
	for i := range len(s) {
		b = append(b, s[i], '\n')
	}
	return b
}

// numbered is the lines of the numbers from the first one on, up to the end.
func numbered(first, end int) string {
	var b strings.Builder
	for i := first; i < end; i++ {
		fmt.Fprintln(&b, i)
	}
	return b.String()
}

// show is edits as a text: the sign of each, and its line, without its end.
func show(l []api.Edit) string {
	s := ""
	for _, e := range l {
		s += string(" -+"[e.Kind]) + strings.TrimSuffix(e.Line, "\n")
	}
	return s
}

// bySides wants edits to have the lines of a, and those of b, in their order.
func bySides(t *testing.T, a, b []byte, l []api.Edit) {
	t.Helper()
	var x, y []byte
	for _, e := range l {
		if e.Kind != api.Insert {
			x = append(x, e.Line...)
		}
		if e.Kind != api.Drop {
			y = append(y, e.Line...)
		}
	}
	if !bytes.Equal(x, a) || !bytes.Equal(y, b) {
		t.Errorf("the edits' sides are %s and %s, not %s and %s", brief(string(x)), brief(string(y)), brief(string(a)), brief(string(b)))
	}
}

// patch wants Patch to write that, and Apply to make b of a by it.
func patch(t *testing.T, a, b string, context int, want string) {
	t.Helper()
	got := string(diff.Patch([]byte(a), []byte(b), context))
	if got != want {
		t.Errorf("Patch(%s, %s, %d): %s\nnot %s", brief(a), brief(b), context, brief(got), brief(want))
	}
	apply(t, a, got, b)
}

// apply wants Apply to make that.
func apply(t *testing.T, a, patch, want string) {
	t.Helper()
	if got, err := diff.Apply([]byte(a), []byte(patch)); err != nil || string(got) != want {
		t.Errorf("Apply(%s, %s): %s, %v\nnot %s", brief(a), brief(patch), brief(string(got)), err, brief(want))
	}
}

// refused wants Apply to answer that error, and nothing else.
func refused(t *testing.T, a, patch string, want api.Errno) {
	t.Helper()
	if got, err := diff.Apply([]byte(a), []byte(patch)); len(got) != 0 || api.Tell(err) != want {
		t.Errorf("Apply(%s, %s): %s, %v\nnot %v", brief(a), brief(patch), brief(string(got)), err, want)
	}
}

// brief is a text, quoted; of a long one its beginning.
func brief(s string) string {
	if len(s) > 200 {
		return fmt.Sprintf("%q.. (%d bytes)", s[:200], len(s))
	}
	return fmt.Sprintf("%q", s)
}

func blob(s string) api.Object { return api.Object{Kind: api.Blob, Data: []byte(s)} }

// idOf is the id of a blob of that text.
func idOf(s string) api.ID {
	id, err := object.ID(blob(s))
	if err != nil {
		panic(err)
	}
	return id
}

// file is a file of that text at a path.
func file(path, text string) api.Entry {
	return api.Entry{Path: path, Mode: api.FileMode, ID: idOf(text), Size: len(text)}
}

// as is a file with another mode.
func as(mode api.Mode, e api.Entry) api.Entry {
	e.Mode = mode
	return e
}

// showTurns is turns as a text: the paths, and the similarity of pairs.
func showTurns(l []api.Turn) string {
	var s []string
	for _, x := range l {
		one := x.From.Path + ">" + x.To.Path
		if x.Similarity != 0 {
			one += fmt.Sprint(" ", x.Similarity)
		}
		s = append(s, one)
	}
	return strings.Join(s, ", ")
}

// turns wants Turns to tell that, in whatever order the files and blobs are, and each file as it was handed in.
func turns(t *testing.T, was, now []api.Entry, blobs []api.Object, least int, want string) {
	t.Helper()
	for _, back := range []bool{false, true} {
		was, now, blobs := slices.Clone(was), slices.Clone(now), slices.Clone(blobs)
		if back {
			slices.Reverse(was)
			slices.Reverse(now)
			slices.Reverse(blobs)
		}
		got, err := diff.Turns(was, now, blobs, least)
		if err != nil || showTurns(got) != want {
			t.Errorf("Turns, at least %d: %s, %v\nnot %s", least, showTurns(got), err, want)
		}
		for _, x := range got {
			if x.From != entryAt(was, x.From.Path) || x.To != entryAt(now, x.To.Path) {
				t.Errorf("%+v is not what was handed in", x)
			}
		}
	}
}

// entryAt is the entry of that path, or none.
func entryAt(l []api.Entry, path string) api.Entry {
	for _, e := range l {
		if e.Path == path {
			return e
		}
	}
	return api.Entry{}
}

// refusedTurns wants Turns to answer that error, and nothing else.
func refusedTurns(t *testing.T, name string, was, now []api.Entry, want api.Errno) {
	t.Helper()
	if got, err := diff.Turns(was, now, nil, 50); len(got) != 0 || api.Tell(err) != want {
		t.Errorf("%s: %s, %v, not %v", name, showTurns(got), err, want)
	}
}
