package diff_test

import (
	"bytes"
	"cmp"
	"fmt"
	"math/rand"
	"regexp"
	"slices"
	"strconv"
	"strings"
	"testing"

	"gitlike/api"
	"gitlike/diff"
	"gitlike/stage"
)

// These are the chapter's words once more, as plainly as can be, however long that takes.

// longest is C(i, j) of 10.2.
func longest(a, b []string, i, j int, known map[[2]int]int) int {
	if i == len(a) || j == len(b) {
		return 0
	}
	at := [2]int{i, j}
	if n, there := known[at]; there {
		return n
	}
	n := max(longest(a, b, i+1, j, known), longest(a, b, i, j+1, known))
	if a[i] == b[j] {
		n = max(n, 1+longest(a, b, i+1, j+1, known))
	}
	known[at] = n
	return n
}

// plainEdits is 10.2, of at most 2000 lines.
func plainEdits(a, b []string) []api.Edit {
	known := map[[2]int]int{}
	var l []api.Edit
	i, j := 0, 0
	for i < len(a) || j < len(b) {
		drop := false
		if i < len(a) && j < len(b) {
			if a[i] == b[j] {
				l = append(l, api.Edit{Kind: api.Keep, Line: a[i]})
				i, j = i+1, j+1
				continue
			}
			drop = longest(a, b, i+1, j, known) >= longest(a, b, i, j+1, known)
		}
		if drop || j == len(b) {
			l = append(l, api.Edit{Kind: api.Drop, Line: a[i]})
			i++
		} else {
			l = append(l, api.Edit{Kind: api.Insert, Line: b[j]})
			j++
		}
	}
	return l
}

// plainPatch is 10.3: it goes from change to change, and counts the kept lines between them.
func plainPatch(l []api.Edit, context int) string {
	context = min(max(context, 0), 1000)
	out := ""
	for at := 0; at < len(l); {
		first := at + slices.IndexFunc(l[at:], func(e api.Edit) bool { return e.Kind != api.Keep })
		if first < at {
			break
		}
		last := first
		for k, kept := first+1, 0; k < len(l) && kept <= 2*context; k++ {
			if l[k].Kind == api.Keep {
				kept++
			} else {
				last, kept = k, 0
			}
		}
		begin, end := max(first-context, 0), min(last+context+1, len(l))
		out += plainHunk(l[:begin], l[begin:end])
		at = last + 1
	}
	return out
}

func plainHunk(ahead, l []api.Edit) string {
	var s, n, t, m int
	body := ""
	for i, e := range slices.Concat(ahead, l) {
		ofA, ofB := e.Kind != api.Insert, e.Kind != api.Drop
		if i < len(ahead) {
			if ofA {
				s++
			}
			if ofB {
				t++
			}
			continue
		}
		if ofA {
			n++
		}
		if ofB {
			m++
		}
		body += string(" -+"[e.Kind]) + strings.TrimSuffix(e.Line, "\n") + "\n"
		if !strings.HasSuffix(e.Line, "\n") {
			body += noEnd
		}
	}
	if n > 0 {
		s++
	}
	if m > 0 {
		t++
	}
	return fmt.Sprintf("@@ -%d,%d +%d,%d @@\n%s", s, n, t, m, body)
}

var headForm = regexp.MustCompile(`^@@ -(0|[1-9][0-9]{0,8}),(0|[1-9][0-9]{0,8}) \+(0|[1-9][0-9]{0,8}),(0|[1-9][0-9]{0,8}) @@\n$`)

// plainApply is 10.4: it reads as many lines of a hunk as its numbers tell. It makes the text from its end on, so that the lines ahead stay where they are.
func plainApply(a []string, patch string) (string, api.Errno) {
	type hunk struct {
		first int
		lines []string
	}
	var hunks []hunk
	lines := slices.Collect(strings.Lines(patch))
	end, shift := 0, 0
	for len(lines) > 0 {
		head := headForm.FindStringSubmatch(lines[0])
		if head == nil {
			return "", api.ErrPatch
		}
		lines = lines[1:]
		var numbers [4]int
		for i := range numbers {
			numbers[i], _ = strconv.Atoi(head[i+1])
		}
		s, n, t, m := numbers[0], numbers[1], numbers[2], numbers[3]
		if n > 0 {
			s--
		}
		if m > 0 {
			t--
		}
		if s < end || t != s+shift {
			return "", api.ErrPatch
		}
		end, shift = s+n, shift+m-n
		h := hunk{first: s}
		changes := 0
		for n > 0 || m > 0 {
			if len(lines) == 0 || !strings.HasSuffix(lines[0], "\n") {
				return "", api.ErrPatch
			}
			switch lines[0][0] {
			case ' ':
				n, m = n-1, m-1
			case '-':
				n, changes = n-1, changes+1
			case '+':
				m, changes = m-1, changes+1
			default:
				return "", api.ErrPatch
			}
			line := lines[0]
			lines = lines[1:]
			if len(lines) > 0 && lines[0] == noEnd {
				line = strings.TrimSuffix(line, "\n")
				lines = lines[1:]
			}
			if len(line) == 1 {
				return "", api.ErrPatch
			}
			h.lines = append(h.lines, line)
		}
		if n < 0 || m < 0 || changes == 0 {
			return "", api.ErrPatch
		}
		hunks = append(hunks, h)
	}
	made := slices.Clone(a)
	for _, h := range slices.Backward(hunks) {
		if h.first > len(a) {
			return "", api.ErrApply
		}
		var was, becomes []string
		for _, line := range h.lines {
			if line[0] != '+' {
				was = append(was, line[1:])
			}
			if line[0] != '-' {
				becomes = append(becomes, line[1:])
			}
		}
		if h.first+len(was) > len(a) || !slices.Equal(a[h.first:h.first+len(was)], was) {
			return "", api.ErrApply
		}
		made = slices.Replace(made, h.first, h.first+len(was), becomes...)
	}
	text := strings.Join(made, "")
	if !slices.Equal(slices.Collect(strings.Lines(text)), made) {
		return "", api.ErrApply
	}
	return text, api.OK
}

// plainSimilarity is 10.5: each line of a looks for one of b that no other has found.
func plainSimilarity(a, b string) int {
	if a == b {
		return 100
	}
	left := slices.Collect(strings.Lines(b))
	sum := 0
	for line := range strings.Lines(a) {
		if i := slices.Index(left, line); i >= 0 {
			left = slices.Delete(left, i, i+1)
			sum += len(line)
		}
	}
	return 200 * sum / (len(a) + len(b))
}

// plainTurns is 10.6: all pairs in a list that is sorted.
func plainTurns(was, now []api.Entry, blobs []api.Object, least int) ([]api.Turn, api.Errno) {
	for _, l := range [][]api.Entry{was, now} {
		if _, err := stage.Write(l); err != nil {
			return nil, api.Tell(err)
		}
	}
	for _, e := range append(slices.Clone(was), now...) {
		if e.Stage != 0 {
			return nil, api.ErrMerge
		}
	}
	var all, pairs []api.Turn
	for _, f := range was {
		for _, e := range now {
			if f.Path == e.Path && (f.Mode != e.Mode || f.ID != e.ID) {
				all = append(all, api.Turn{From: f, To: e})
			}
			if entryAt(now, f.Path).Path == "" && entryAt(was, e.Path).Path == "" {
				pairs = append(pairs, api.Turn{From: f, To: e, Similarity: plainLikeness(f, e, blobs)})
			}
		}
	}
	other := func(x api.Turn) int {
		if x.From.ID == x.To.ID {
			return 0
		}
		return 1
	}
	slices.SortFunc(pairs, func(x, y api.Turn) int {
		return cmp.Or(other(x)-other(y), y.Similarity-x.Similarity, strings.Compare(x.From.Path, y.From.Path), strings.Compare(x.To.Path, y.To.Path))
	})
	taken := map[string]bool{}
	for _, x := range pairs {
		if x.Similarity >= max(least, 1) && !taken[x.From.Path] && !taken[x.To.Path] {
			taken[x.From.Path], taken[x.To.Path] = true, true
			all = append(all, x)
		}
	}
	for _, f := range was {
		if entryAt(now, f.Path).Path == "" && !taken[f.Path] {
			all = append(all, api.Turn{From: f})
		}
	}
	for _, e := range now {
		if entryAt(was, e.Path).Path == "" && !taken[e.Path] {
			all = append(all, api.Turn{To: e})
		}
	}
	slices.SortFunc(all, func(x, y api.Turn) int {
		return cmp.Or(strings.Compare(cmp.Or(x.To.Path, x.From.Path), cmp.Or(y.To.Path, y.From.Path)), strings.Compare(x.From.Path, y.From.Path))
	})
	return all, api.OK
}

func plainLikeness(f, e api.Entry, blobs []api.Object) int {
	if f.ID == e.ID {
		return 100
	}
	var texts [2][]byte
	found := 0
	for i, x := range []api.Entry{f, e} {
		for _, o := range blobs {
			if x.Mode != api.LinkMode && o.Kind == api.Blob && idOf(string(o.Data)) == x.ID {
				texts[i] = o.Data
				found |= 1 << i
			}
		}
	}
	if found != 3 {
		return 0
	}
	return plainSimilarity(string(texts[0]), string(texts[1]))
}

// lotText is a text of a few lines, of which many are the same.
func lotText(lot *rand.Rand) string {
	var b strings.Builder
	for range lot.Intn(14) {
		b.WriteString([]string{"", "a", "b", "c", "dd", "-", "+", " ", "@@ -1,1 +1,1 @@", strings.TrimSuffix(noEnd, "\n")}[lot.Intn(1+lot.Intn(10))] + "\n")
	}
	if lot.Intn(3) == 0 {
		b.WriteString([]string{"a", "b", "\r", "@", "\\"}[lot.Intn(5)])
	}
	return b.String()
}

// changedText is a text with a few of its lines dropped, inserted, moved.
func changedText(lot *rand.Rand, s string) string {
	l := diff.Lines([]byte(s))
	for range lot.Intn(4) {
		at := lot.Intn(len(l) + 1)
		switch lot.Intn(5) {
		case 0:
			l = slices.Insert(l, lot.Intn(len(l)+1), l[:min(1, len(l))]...)
			l = l[min(1, len(l)):]
		case 1, 2:
			l = slices.Delete(l, at, min(at+1, len(l)))
		default:
			l = slices.Insert(l, at, []string{"x\n", "a\n", "b\n"}[lot.Intn(3)])
		}
	}
	return strings.Join(l, "")
}

func lotPair(lot *rand.Rand) (a, b string) {
	a = lotText(lot)
	if lot.Intn(3) == 0 {
		return a, lotText(lot)
	}
	return a, changedText(lot, a)
}

// TestTextsByLot: 10.1 to 10.3 and 10.5, by what the chapter says of them.
func TestTextsByLot(t *testing.T) {
	lot := rand.New(rand.NewSource(10))
	hunks := map[int]int{}
	for range 4000 {
		a, b := lotPair(lot)
		edits := diff.Edits([]byte(a), []byte(b))
		if want := plainEdits(diff.Lines([]byte(a)), diff.Lines([]byte(b))); !slices.Equal(edits, want) {
			t.Fatalf("Edits(%q, %q): %q, not %q", a, b, show(edits), show(want))
		}
		bySides(t, []byte(a), []byte(b), edits)
		context := lot.Intn(5) - 1
		got := string(diff.Patch([]byte(a), []byte(b), context))
		if want := plainPatch(edits, context); got != want {
			t.Fatalf("Patch(%q, %q, %d): %q, not %q", a, b, context, got, want)
		}
		apply(t, a, got, b)
		hunks[strings.Count(got, "\n@@ -")]++
		similar(t, a, b, plainSimilarity(a, b))
	}
	if hunks[0] < 100 || hunks[1] < 100 || hunks[2] < 30 {
		t.Errorf("patches by their hunks: %v", hunks)
	}
}

// spoilt is a patch with something changed: a byte, a line, a number.
func spoilt(lot *rand.Rand, p string) string {
	l := slices.Collect(strings.Lines(p))
	at := 0
	if len(l) > 0 {
		at = lot.Intn(len(l))
	}
	switch kind := lot.Intn(8); {
	case len(l) == 0:
		return []string{"", "\n", "x", "@@ -0,0 +1,1 @@\n+a\n"}[lot.Intn(4)]
	case kind == 0:
		l = slices.Delete(l, at, at+1)
	case kind == 1:
		l = slices.Insert(l, at, l[lot.Intn(len(l))])
	case kind == 2:
		with := lot.Intn(len(l))
		l[at], l[with] = l[with], l[at]
	case kind == 3:
		l = slices.Insert(l, at, []string{noEnd, " a\n", "-a\n", "+b\n", "\n", "+"}[lot.Intn(6)])
	case kind == 4:
		l[at] = string(" -+@\\"[lot.Intn(5)]) + l[at][1:]
	case kind <= 6:
		// One of the numbers of a head, if there is one here.
		numbers := regexp.MustCompile(`[0-9]+`).FindAllStringIndex(l[at], -1)
		if len(numbers) > 0 {
			n := numbers[lot.Intn(len(numbers))]
			was, _ := strconv.Atoi(l[at][n[0]:n[1]])
			l[at] = l[at][:n[0]] + strconv.Itoa(max(was+lot.Intn(3)-1, 0)) + l[at][n[1]:]
		}
	default:
		b := []byte(strings.Join(l, ""))
		b[lot.Intn(len(b))] = "a0 1,\n@-+"[lot.Intn(9)]
		return string(b)
	}
	return strings.Join(l, "")
}

// TestApplyByLot: 10.4, patches that were made for a text, or for another one, or were changed since.
func TestApplyByLot(t *testing.T) {
	lot := rand.New(rand.NewSource(11))
	told := map[api.Errno]int{}
	for range 30000 {
		a, b := lotPair(lot)
		p := string(diff.Patch([]byte(a), []byte(b), lot.Intn(4)))
		for range lot.Intn(3) {
			p = spoilt(lot, p)
		}
		if lot.Intn(3) == 0 {
			a = changedText(lot, a)
		}
		want, code := plainApply(diff.Lines([]byte(a)), p)
		got, err := diff.Apply([]byte(a), []byte(p))
		if string(got) != want || api.Tell(err) != code {
			t.Fatalf("Apply(%q, %q): %q, %v, not %q, %v", a, p, got, err, want, code)
		}
		told[code]++
	}
	if told[api.OK] < 5000 || told[api.ErrPatch] < 5000 || told[api.ErrApply] < 2000 {
		t.Errorf("answers: %v", told)
	}
}

// lotFiles is files at some of a few paths.
func lotFiles(lot *rand.Rand, texts []string) []api.Entry {
	var l []api.Entry
	for _, path := range []string{"a", "b", "c/d", "c.d", "c0", "e", "f", "g", "h"} {
		if lot.Intn(2) == 0 {
			e := as([]api.Mode{api.FileMode, api.FileMode, api.ExecMode, api.LinkMode}[lot.Intn(4)], file(path, texts[lot.Intn(len(texts))]))
			e.Size = lot.Intn(3)
			l = append(l, e)
		}
	}
	if len(l) > 0 && lot.Intn(20) == 0 {
		e := &l[lot.Intn(len(l))]
		switch lot.Intn(5) {
		case 0:
			e.Stage = 1 + lot.Intn(4)
		case 1:
			e.Path = []string{"a", "b", "c", "", "e/"}[lot.Intn(5)]
		case 2:
			e.Mode = api.DirMode
		default:
			e.Stage = 1
		}
	}
	lot.Shuffle(len(l), func(i, k int) { l[i], l[k] = l[k], l[i] })
	return l
}

// TestTurnsByLot: 10.6, by what the chapter says.
func TestTurnsByLot(t *testing.T) {
	lot := rand.New(rand.NewSource(12))
	told := map[string]int{}
	for range 4000 {
		texts := []string{lotText(lot)}
		for range 5 {
			texts = append(texts, changedText(lot, texts[lot.Intn(len(texts))]))
		}
		was, now := lotFiles(lot, texts), lotFiles(lot, texts)
		var blobs []api.Object
		for _, s := range texts {
			if lot.Intn(5) > 0 {
				blobs = append(blobs, blob(s))
			}
		}
		if lot.Intn(3) == 0 {
			blobs = append(blobs, api.Object{Kind: api.Tree}, api.Object{Kind: 5, Data: bytes.Repeat([]byte("a\n"), 3)}, blob("a\n"))
		}
		least := []int{-3, 0, 1, 20, 50, 75, 99, 100, 101}[lot.Intn(9)]
		got, err := diff.Turns(was, now, blobs, least)
		want, code := plainTurns(was, now, blobs, least)
		if api.Tell(err) != code || !slices.Equal(got, want) {
			t.Fatalf("Turns(%+v, %+v, %q, %d): %s, %v, not %s, %v", was, now, texts, least, showTurns(got), err, showTurns(want), code)
		}
		told[fmt.Sprint(code)]++
		for _, x := range got {
			switch {
			case x.From.ID == x.To.ID && x.Similarity == 100:
				told["one id"]++
			case x.Similarity == 100:
				told["alike, but in another order"]++
			case x.Similarity > 0:
				told["alike"]++
			}
		}
	}
	for what, least := range map[string]int{fmt.Sprint(api.OK): 2000, fmt.Sprint(api.ErrPath): 20, fmt.Sprint(api.ErrStage): 20, fmt.Sprint(api.ErrMerge): 50, "one id": 1000, "alike, but in another order": 20, "alike": 500} {
		if told[what] < least {
			t.Errorf("%s: %d times only", what, told[what])
		}
	}
}
