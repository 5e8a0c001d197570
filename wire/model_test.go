package wire_test

import (
	"bytes"
	"fmt"
	"math/rand"
	"regexp"
	"slices"
	"strings"
	"testing"

	"gitlike/api"
	"gitlike/refs"
	"gitlike/wire"
)

// These are the chapter's words once more, as plainly as can be: what is right is told by forms, not by writing it.

// plainLines is 12.1: all lines; of a push (front) those up to the first flush, and what is behind it.
func plainLines(b string, sizes map[string]int, front bool) (lines []string, behind string, right bool) {
	for b != "" {
		if len(b) < 4 {
			return nil, "", false
		}
		n, is := sizes[b[:4]]
		if !is || len(b) < 4+n {
			return nil, "", false
		}
		lines = append(lines, b[4:4+n])
		b = b[4+n:]
		if front && n == 0 {
			return lines, b, true
		}
	}
	return lines, "", !front
}

var (
	headForm   = regexp.MustCompile(`\Ahead ([^ \n]+)\n\z`)
	refForm    = regexp.MustCompile(`\A([0-9a-f]{40}) ([^ \n]+)\n\z`)
	wantForm   = regexp.MustCompile(`\Awant ([0-9a-f]{40})\n\z`)
	haveForm   = regexp.MustCompile(`\Ahave ([0-9a-f]{40})\n\z`)
	changeForm = regexp.MustCompile(`\A([0-9a-f]{40}) ([0-9a-f]{40}) ([^ \n]+)\n\z`)
	okForm     = regexp.MustCompile(`\Aok ([^ \n]+)\n\z`)
	ngForm     = regexp.MustCompile(`\Ang ([^ \n]+) ([1-9][0-9]{0,2})\n\z`)
)

// forms is the parts of a list's lines, each of one of these forms, at most so many; no two have the same part key, which must be a name if names are asked for.
func forms(lines []string, most int, names bool, key int, form ...*regexp.Regexp) (parts [][]string, right bool) {
	seen := map[string]bool{}
	for _, line := range lines {
		var m []string
		for _, f := range form {
			if m == nil {
				m = f.FindStringSubmatch(line)
			}
		}
		if m == nil || seen[m[key]] || names && !refs.IsName(m[key]) {
			return nil, false
		}
		seen[m[key]] = true
		parts = append(parts, m)
	}
	return parts, len(lines) <= most
}

// plainOffer is 12.3, of lines.
func plainOffer(l []string) (string, bool) {
	if len(l) == 0 || l[len(l)-1] != "" {
		return "", false
	}
	l = l[:len(l)-1]
	var out []string
	if len(l) > 0 {
		if m := headForm.FindStringSubmatch(l[0]); m != nil {
			if !refs.IsName(m[1]) {
				return "", false
			}
			out = append(out, "head="+m[1])
			l = l[1:]
		}
	}
	parts, right := forms(l, 500, true, 2, refForm)
	var names []string
	for _, p := range parts {
		names = append(names, p[2])
		out = append(out, p[2]+"="+p[1])
	}
	return strings.Join(out, ","), right && slices.IsSorted(names)
}

// plainWant is 12.4.
func plainWant(l []string) (string, bool) {
	at := slices.Index(l, "")
	if at < 0 || l[len(l)-1] != "done\n" {
		return "", false
	}
	var out []string
	want, right := forms(l[:at], 5000, false, 1, wantForm)
	if !right {
		return "", false
	}
	have, right := forms(l[at+1:len(l)-1], 5000, false, 1, haveForm)
	for _, p := range want {
		out = append(out, "want="+p[1])
	}
	for _, p := range have {
		out = append(out, "have="+p[1])
	}
	return strings.Join(out, ","), right
}

// plainPush is 12.5.
func plainPush(l []string, pack string) (string, bool) {
	parts, right := forms(l[:len(l)-1], 500, true, 3, changeForm)
	var out []string
	for _, p := range parts {
		out = append(out, p[3]+":"+p[1]+">"+p[2])
	}
	if pack != "" {
		out = append(out, fmt.Sprintf("pack=%q", pack))
	}
	return strings.Join(out, ","), right
}

// plainStatus is 12.6.
func plainStatus(l []string) (string, bool) {
	if len(l) == 0 || l[len(l)-1] != "" {
		return "", false
	}
	parts, right := forms(l[:len(l)-1], 500, true, 1, okForm, ngForm)
	var out []string
	for _, p := range parts {
		number := "0"
		if len(p) > 2 {
			number = p[2]
		}
		out = append(out, p[1]+":"+number)
	}
	return strings.Join(out, ","), right
}

// plain is what reading should tell: 0 offers, 1 wants, 2 pushes, 3 statuses.
func plain(kind int, b string, sizes map[string]int) (string, api.Errno) {
	lines, behind, right := plainLines(b, sizes, kind == 2)
	if !right {
		return "", api.ErrWire
	}
	var text string
	switch kind {
	case 0:
		text, right = plainOffer(lines)
	case 1:
		text, right = plainWant(lines)
	case 2:
		text, right = plainPush(lines, behind)
	case 3:
		text, right = plainStatus(lines)
	}
	if !right {
		return "", api.ErrTalk
	}
	return text, 0
}

// lot draws what is said.
type lot struct{ *rand.Rand }

func (r lot) of(l ...string) string { return l[r.Intn(len(l))] }

func (r lot) name() string {
	if r.Intn(8) > 0 {
		return r.of("refs/a", "refs/b", "refs/c", "refs/d", "refs/heads/main", "refs/A", "refs/a/b", "refs/a-b", "HEAD", longName)
	}
	return r.of("refs/a", "refs/b", "x", "refs/", "refs/a b", "refs/a.lock", "head", "", "refs/a ", longName+"x")
}

func (r lot) hex() string {
	if r.Intn(15) > 0 {
		return fmt.Sprintf("%040x", r.Intn(12))
	}
	return r.of(hexOne, hexTwo, hexOne[1:], hexTwo+"0", strings.ToUpper(hexTwo), "", "0", strings.Repeat("g", 40))
}

func (r lot) text(kind int) string {
	switch kind {
	case 0:
		return r.hex() + " " + r.name()
	case 1:
		return r.of("want", "want", "want", "have") + " " + r.hex()
	case 2:
		return r.hex() + " " + r.hex() + " " + r.name()
	case 3:
		return r.of("ok "+r.name(), "ng "+r.name()+" "+r.of("1", "5", "62", "100", "999", "1", "5", "62", "100", "999", "0", "05", "1000", "", "x", "-1", "+1"))
	case 4:
		return "have " + r.hex()
	case 5:
		return "head " + r.name()
	}
	return r.of("done", "x", "head", "ok", "ng", "want", " ", "done ")
}

func (r lot) texts(kind, n int) []string {
	var l []string
	for range n {
		l = append(l, r.text(kind))
	}
	return l
}

// said is something that may be right.
func (r lot) said(kind int) string {
	l := r.texts(kind, r.Intn(5))
	switch kind {
	case 0:
		if r.Intn(4) > 0 {
			slices.SortFunc(l, func(a, b string) int { return strings.Compare(a[strings.Index(a, " "):], b[strings.Index(b, " "):]) })
		}
		if r.Intn(2) == 0 {
			l = append([]string{r.text(5)}, l...)
		}
		l = append(l, "")
	case 1:
		l = concat(l, []string{""}, r.texts(4, r.Intn(4)), []string{"done"})
	default:
		l = append(l, "")
	}
	if r.Intn(4) == 0 && len(l) > 0 {
		l = r.spoil(l)
	}
	b := said(l...)
	if r.Intn(10) == 0 && len(l) > 0 {
		b = said(l[:len(l)-1]...) + r.of("", raw(l[len(l)-1]), said(l[len(l)-1]+"\n"), "0000", "0005\n")
	}
	if kind == 2 || r.Intn(20) == 0 {
		b += r.of("", "pack", "0000", "0005\n", "000", "x", said("x", ""))
	}
	if r.Intn(6) == 0 && b != "" {
		at := r.Intn(len(b))
		b = b[:at] + r.of("", "0", "\n", " ", "f", "A", "x", "\x00") + b[min(len(b), at+r.Intn(2)):]
	}
	return b
}

// spoil turns a list about.
func (r lot) spoil(l []string) []string {
	i, j := r.Intn(len(l)), r.Intn(len(l))
	l = slices.Clone(l)
	switch r.Intn(5) {
	case 0:
		return slices.Delete(l, i, i+1)
	case 1:
		l[i], l[j] = l[j], l[i]
	case 2:
		return slices.Insert(l, i, l[j])
	case 3:
		return slices.Insert(l, i, r.text(r.Intn(7)))
	case 4:
		return slices.Insert(l, i, "")
	}
	return l
}

// writeBack is what is read of b, written once more.
func writeBack(kind int, b []byte) (again []byte, err error) {
	switch kind {
	case 0:
		o, err := wire.ReadOffer(b)
		if err != nil {
			return nil, err
		}
		return wire.WriteOffer(o)
	case 1:
		want, have, err := wire.ReadWant(b)
		if err != nil {
			return nil, err
		}
		return wire.WriteWant(want, have)
	case 2:
		l, pack, err := wire.ReadPush(b)
		if err != nil {
			return nil, err
		}
		return wire.WritePush(l, pack)
	}
	l, err := wire.ReadStatus(b)
	if err != nil {
		return nil, err
	}
	return wire.WriteStatus(l)
}

const games = 30000

// TestTalkByLot: 12.2 to 12.6, against the words of the chapter; and what is read is written as it was.
func TestTalkByLot(t *testing.T) {
	r := lot{rand.New(rand.NewSource(12))}
	sizes := plainSizes()
	var seen [4]map[api.Errno]int
	for k := range seen {
		seen[k] = map[api.Errno]int{}
	}
	readers := []talk{offers, wants, pushes, statuses}
	for range games {
		kind := r.Intn(4)
		b := r.said(kind)
		for k, reader := range readers {
			want, wantErr := plain(k, b, sizes)
			got, err := reader.read([]byte(b))
			if got != want || api.Tell(err) != wantErr {
				t.Fatalf("%s(%q): %s, %v, not %s, %v", reader.name, b, got, err, want, wantErr)
			}
			if k == kind {
				seen[k][wantErr]++
			}
		}
		if _, wantErr := plain(kind, b, sizes); wantErr == 0 {
			if again, err := writeBack(kind, []byte(b)); err != nil || string(again) != b {
				t.Fatalf("%q, written again: %q, %v", b, again, err)
			}
		}
	}
	for k := range seen {
		for _, e := range []api.Errno{0, api.ErrWire, api.ErrTalk} {
			if seen[k][e] < games/200 {
				t.Errorf("%s: error %d came %d times", readers[k].name, e, seen[k][e])
			}
		}
	}
}

// TestWriteByLot: 12.2, what can be written is what, written as the chapter says, can be read; and it is so written.
func TestWriteByLot(t *testing.T) {
	r := lot{rand.New(rand.NewSource(13))}
	sizes := plainSizes()
	done := map[string]int{}
	check := func(kind int, what, text string, b []byte, err error) {
		_, wantErr := plain(kind, text, sizes)
		if wantErr == api.ErrWire { // a line that is too long is no packet line
			wantErr = api.ErrTalk
		}
		if api.Tell(err) != wantErr || err == nil && string(b) != text {
			t.Fatalf("%s: %q, %v, not %q, %v", what, b, err, text, wantErr)
		}
		done[fmt.Sprint(kind, err == nil)]++
	}
	for range games {
		var ids, more []api.ID
		var o api.Offer
		var changes []api.Change
		var status []api.Status
		for range r.Intn(4) {
			ids = append(ids, api.ID{19: byte(r.Intn(9))})
			more = append(more, api.ID{byte(r.Intn(9))})
			o.Refs = append(o.Refs, api.Ref{Name: r.name(), ID: ids[0]})
			changes = append(changes, api.Change{Name: r.name(), Old: ids[0], New: more[0]})
			status = append(status, api.Status{Name: r.name(), Err: api.Errno(r.Intn(1020) - 10)})
		}
		if r.Intn(2) == 0 {
			o.Head = r.name()
		}
		if r.Intn(3) > 0 {
			slices.SortFunc(o.Refs, func(a, b api.Ref) int { return strings.Compare(a.Name, b.Name) })
		}
		b, err := wire.WriteOffer(o)
		check(0, showOffer(o), offerText(o), b, err)
		b, err = wire.WriteWant(ids, more)
		check(1, showWant(ids, more), wantText(ids, more), b, err)
		b, err = wire.WritePush(changes, []byte("pack"))
		check(2, showPush(changes, nil), pushText(changes)+"pack", b, err)
		b, err = wire.WriteStatus(status)
		check(3, showStatus(status), statusText(status), b, err)
	}
	for k := range 4 {
		for _, right := range []bool{true, false} {
			if n := done[fmt.Sprint(k, right)]; n < games/20 {
				t.Errorf("%d %v: %d times", k, right, n)
			}
		}
	}
}

func offerText(o api.Offer) string {
	var l []string
	if o.Head != "" {
		l = append(l, "head "+o.Head)
	}
	for _, r := range o.Refs {
		l = append(l, fmt.Sprintf("%x %s", r.ID[:], r.Name))
	}
	return said(append(l, "")...)
}

func pushText(changes []api.Change) string {
	var l []string
	for _, c := range changes {
		l = append(l, fmt.Sprintf("%x %x %s", c.Old[:], c.New[:], c.Name))
	}
	return said(append(l, "")...)
}

func statusText(status []api.Status) string {
	var l []string
	for _, s := range status {
		if s.Err == 0 {
			l = append(l, "ok "+s.Name)
		} else {
			l = append(l, fmt.Sprintf("ng %s %d", s.Name, int(s.Err)))
		}
	}
	return said(append(l, "")...)
}

// TestLinesByLot: 12.1, lines of any bytes come back, and bytes that are no lines do not.
func TestLinesByLot(t *testing.T) {
	r := lot{rand.New(rand.NewSource(14))}
	sizes := plainSizes()
	right := 0
	for range games {
		var l []string
		for range r.Intn(5) {
			line := make([]byte, r.Intn(r.Intn(1000)+2))
			r.Read(line)
			l = append(l, string(line))
		}
		b := raw(l...)
		if got, err := wire.Pkt(linesOf(l...)); err != nil || string(got) != b {
			t.Fatalf("Pkt(%q): %q, %v", l, got, err)
		}
		if r.Intn(2) == 0 && b != "" {
			at := r.Intn(min(len(b), 20))
			b = b[:at] + r.of("", "0", "1", "a", "F") + b[at+r.Intn(2):]
		}
		want, _, is := plainLines(b, sizes, false)
		got, err := wire.Lines([]byte(b))
		if is != (err == nil) || err != nil && api.Tell(err) != api.ErrWire || !sameLines(got, linesOf(want...)) {
			t.Fatalf("Lines(%q): %q, %v, not %q", b, got, err, want)
		}
		if is {
			right++
		}
	}
	if right < games/4 || right > games-games/10 {
		t.Errorf("%d of %d are right", right, games)
	}
}

// TestNoise: P1, whatever is read, it ends.
func TestNoise(t *testing.T) {
	r := rand.New(rand.NewSource(15))
	long := bytes.Repeat([]byte("0005\n"), 200000)
	for i := range 3000 {
		b := make([]byte, r.Intn(300))
		for k := range b {
			b[k] = "0123456789abcdef \nhead want have done ok ng refs/\x00\xff"[r.Intn(50)]
		}
		if i == 0 {
			b = long
		}
		text, _ := readAll(b)
		if again, _ := readAll(b); again != text {
			t.Fatalf("%q: %s, and then %s", b, text, again)
		}
	}
}
