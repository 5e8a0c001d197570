package object_test

import (
	"bytes"
	"math/rand"
	"slices"
	"strconv"
	"strings"
	"testing"

	"gitlike/api"
	"gitlike/object"
)

// entry is one of a tree in bytes, with an id that begins with that byte.
func entry(mode, name string, id byte) string {
	return mode + " " + name + "\x00" + string([]byte{id}) + strings.Repeat("\x00", 19)
}

// of makes an entry.
func of(m api.Mode, name string) api.TreeEntry {
	return api.TreeEntry{Mode: m, Name: name, ID: api.ID{1}}
}

// wantTree wants entries to be written as these bytes, and these to be read as the entries in order.
func wantTree(t *testing.T, l []api.TreeEntry, want string) {
	t.Helper()
	b, err := object.WriteTree(l)
	if err != nil || string(b) != want {
		t.Fatalf("WriteTree: %.300q, %v, not %.300q", b, err, want)
	}
	got, err := object.ReadTree([]byte(want))
	if err != nil || len(got) != len(l) {
		t.Fatalf("ReadTree of %.300q: %d, %v", want, len(got), err)
	}
	for _, e := range l {
		if !slices.Contains(got, e) {
			t.Fatalf("ReadTree of %.300q: without %v", want, e)
		}
	}
	if again, err := object.WriteTree(got); err != nil || string(again) != want {
		t.Fatalf("WriteTree of what was read: %.300q, %v", again, err)
	}
}

// noTree wants entries to be none of a tree, in whatever order.
func noTree(t *testing.T, l ...api.TreeEntry) {
	t.Helper()
	for range 2 {
		if b, err := object.WriteTree(l); b != nil || api.Tell(err) != api.ErrTree {
			t.Errorf("WriteTree of %.200v: %.100q, %v", l, b, err)
		}
		l = slices.Clone(l)
		slices.Reverse(l)
	}
}

// noTreeBytes wants bytes to be no tree.
func noTreeBytes(t *testing.T, s string) {
	t.Helper()
	if l, err := object.ReadTree([]byte(s)); len(l) != 0 || api.Tell(err) != api.ErrTree {
		t.Errorf("ReadTree of %.200q: %.200v, %v", s, l, err)
	}
}

func TestEmptyTree(t *testing.T) {
	for _, l := range [][]api.TreeEntry{nil, {}} {
		if b, err := object.WriteTree(l); len(b) != 0 || err != nil {
			t.Errorf("WriteTree: %q, %v", b, err)
		}
	}
	for _, b := range [][]byte{nil, {}} {
		if l, err := object.ReadTree(b); len(l) != 0 || err != nil {
			t.Errorf("ReadTree: %v, %v", l, err)
		}
	}
}

func TestModes(t *testing.T) {
	for mode, text := range map[api.Mode]string{api.DirMode: "40000", api.FileMode: "100644", api.ExecMode: "100755", api.LinkMode: "120000"} {
		wantTree(t, []api.TreeEntry{of(mode, "x")}, entry(text, "x", 1))
		noTreeBytes(t, entry("0"+text, "x", 1))
		noTreeBytes(t, entry("+"+text, "x", 1))
		noTreeBytes(t, entry(" "+text, "x", 1))
		noTreeBytes(t, entry("0o"+text, "x", 1))
		noTreeBytes(t, entry(text+"0", "x", 1))
		noTreeBytes(t, entry("-"+text, "x", 1))
	}
	for _, m := range []api.Mode{0, 1, -1, 40000, 100644, 0o100664, 0o100600, 0o160000, 0o40755, 0o120755, -api.FileMode, 0o644, 1 << 40, -1 << 63, 1<<63 - 1, api.FileMode + 1<<32} {
		noTree(t, of(m, "x"))
		noTreeBytes(t, entry(strconv.FormatInt(int64(m), 8), "x", 1))
	}
	for _, s := range []string{"", "8", "10064４", "100648", "file", strings.Repeat("1", 100), strings.Repeat("0", 1000) + "40000", "1_00644"} {
		noTreeBytes(t, entry(s, "x", 1))
	}
}

func TestEntryNames(t *testing.T) {
	for _, n := range []string{
		"x", " ", "  ", " x ", "a b", "\n", "\x01", "\xff\xfe", "é", "...", "....", ".g", ".gi", ".gitt", ".git ", ".Git", ".GIT", "git", "..git", ".gitignore", ". ", " .", "\\", "a\\b", "-", "40000 x",
		strings.Repeat("n", 49), strings.Repeat("n", 50), strings.Repeat("\xff", 50), strings.Repeat("é", 25), strings.Repeat(".", 50),
	} {
		wantTree(t, []api.TreeEntry{of(api.FileMode, n)}, entry("100644", n, 1))
		wantTree(t, []api.TreeEntry{of(api.DirMode, n)}, entry("40000", n, 1))
	}
	for _, n := range []string{
		"", ".", "..", ".git", "/", "a/", "/a", "a/b", "\x00", "a\x00", "\x00a", "a\x00b", "\xff/", "\xff\x00",
		strings.Repeat("n", 51), strings.Repeat("é", 26), strings.Repeat("n", 49) + "é", strings.Repeat("n", 100), strings.Repeat("n", 49) + "/", strings.Repeat("n", 70000),
	} {
		for _, m := range []api.Mode{api.DirMode, api.FileMode, api.ExecMode, api.LinkMode} {
			noTree(t, of(m, n))
			noTree(t, of(m, n), of(api.FileMode, "other"))
		}
		noTreeBytes(t, entry("100644", n, 1))
		noTreeBytes(t, entry("40000", n, 1))
	}
}

// TestOrder has names that stand otherwise with the `/` than without it.
func TestOrder(t *testing.T) {
	wantTree(t, []api.TreeEntry{of(api.FileMode, "a0"), of(api.DirMode, "a"), of(api.LinkMode, "a.b")},
		entry("120000", "a.b", 1)+entry("40000", "a", 1)+entry("100644", "a0", 1))
	wantTree(t, []api.TreeEntry{of(api.FileMode, "a0"), of(api.FileMode, "a"), of(api.LinkMode, "a.b")},
		entry("100644", "a", 1)+entry("120000", "a.b", 1)+entry("100644", "a0", 1))
	wantTree(t, []api.TreeEntry{of(api.DirMode, "a"), of(api.DirMode, "a."), of(api.DirMode, "a0")},
		entry("40000", "a.", 1)+entry("40000", "a", 1)+entry("40000", "a0", 1))
	wantTree(t, []api.TreeEntry{of(api.DirMode, "a"), of(api.FileMode, "a ")},
		entry("100644", "a ", 1)+entry("40000", "a", 1))
	wantTree(t, []api.TreeEntry{of(api.DirMode, "b"), of(api.FileMode, "B"), of(api.FileMode, "\xff"), of(api.FileMode, "é"), of(api.FileMode, "z"), of(api.FileMode, "10"), of(api.FileMode, "9"), of(api.FileMode, "\x01")},
		entry("100644", "\x01", 1)+entry("100644", "10", 1)+entry("100644", "9", 1)+entry("100644", "B", 1)+entry("40000", "b", 1)+entry("100644", "z", 1)+entry("100644", "é", 1)+entry("100644", "\xff", 1))
	// Only a directory counts with a `/`, and ids and modes do not count.
	wantTree(t, []api.TreeEntry{{Mode: api.LinkMode, Name: "a", ID: api.ID{9}}, {Mode: api.ExecMode, Name: "a.", ID: api.ID{1}}, {Mode: api.FileMode, Name: "a-", ID: api.ID{5}}},
		entry("120000", "a", 9)+entry("100644", "a-", 5)+entry("100755", "a.", 1))
	noTreeBytes(t, entry("40000", "a", 1)+entry("120000", "a.b", 1))
	noTreeBytes(t, entry("40000", "a", 1)+entry("40000", "a.b", 1))
	noTreeBytes(t, entry("100644", "a.b", 1)+entry("100644", "a", 1))
	noTreeBytes(t, entry("100644", "a0", 1)+entry("40000", "a", 1))
	noTreeBytes(t, entry("100644", "b", 1)+entry("100644", "a", 1))
}

// TestNamesThatAreThereTwice has them side by side, and with others between.
func TestNamesThatAreThereTwice(t *testing.T) {
	modes := map[api.Mode]string{api.DirMode: "40000", api.FileMode: "100644", api.ExecMode: "100755", api.LinkMode: "120000"}
	for m, first := range modes {
		for n, second := range modes {
			noTree(t, of(m, "a"), of(n, "a"))
			noTree(t, of(m, "a"), of(api.FileMode, "a.b"), of(n, "a"))
			noTree(t, of(m, "a"), of(api.FileMode, "z"), of(n, "a"), of(api.FileMode, "0"))
			noTreeBytes(t, entry(first, "a", 1)+entry(second, "a", 1))
			noTreeBytes(t, entry(first, "a", 1)+entry(second, "a", 2))
			noTreeBytes(t, entry(first, "a", 1)+entry("100644", "a.b", 1)+entry(second, "a", 1))
		}
	}
	noTree(t, api.TreeEntry{Mode: api.FileMode, Name: "a", ID: api.ID{1}}, api.TreeEntry{Mode: api.FileMode, Name: "a", ID: api.ID{2}})
}

// many makes so many entries, files and directories by turns.
func many(n int) []api.TreeEntry {
	var l []api.TreeEntry
	for i := range n {
		m := api.FileMode
		if i%2 == 1 {
			m = api.DirMode
		}
		l = append(l, of(m, "f"+strconv.Itoa(100000+i)))
	}
	return l
}

func TestManyEntries(t *testing.T) {
	var all string
	for _, e := range many(api.MaxEntries + 1) {
		all += entry(strconv.FormatInt(int64(e.Mode), 8), e.Name, 1)
	}
	last := len(entry("100644", "f100000", 1))
	mixed := many(api.MaxEntries)
	rand.New(rand.NewSource(1)).Shuffle(len(mixed), func(i, j int) { mixed[i], mixed[j] = mixed[j], mixed[i] })
	wantTree(t, mixed, all[:len(all)-last])
	noTree(t, many(api.MaxEntries+1)...)
	noTreeBytes(t, all)
	noTreeBytes(t, strings.Repeat(all[:last], 100000))
}

func TestTreeBytesThatAreCut(t *testing.T) {
	all := entry("120000", "a.b", 1) + entry("40000", "a", 1) + entry("100644", "a0", 1)
	ends := []int{0, len(entry("120000", "a.b", 1)), len(entry("120000", "a.b", 1) + entry("40000", "a", 1)), len(all)}
	for n := range len(all) + 1 {
		if !slices.Contains(ends, n) {
			noTreeBytes(t, all[:n])
		} else if l, err := object.ReadTree([]byte(all[:n])); err != nil || len(l) != slices.Index(ends, n) {
			t.Errorf("%d bytes: %v, %v", n, l, err)
		}
	}
	for _, s := range []string{"x", "\x00", "1", "100644 b", "100644 b\x00", " "} {
		noTreeBytes(t, all+s)
	}
	noTreeBytes(t, "100644a\x00"+strings.Repeat("i", 20))
	noTreeBytes(t, "100644\x00"+strings.Repeat("i", 20))
	noTreeBytes(t, "100644\ta\x00"+strings.Repeat("i", 20))
	noTreeBytes(t, strings.Repeat("\x00", 1000))
	noTreeBytes(t, strings.Repeat("x", 1000))
}

// isOrdered is told another way: by all pairs.
func isOrdered(l []api.TreeEntry) bool {
	key := func(e api.TreeEntry) string {
		if e.Mode == api.DirMode {
			return e.Name + "/"
		}
		return e.Name
	}
	for i := range l {
		for j := range i {
			if key(l[j]) >= key(l[i]) || l[i].Name == l[j].Name {
				return false
			}
		}
	}
	return true
}

// TestMadeUpTrees has short names of few signs, so that many clash.
func TestMadeUpTrees(t *testing.T) {
	r := rand.New(rand.NewSource(2))
	modes := []api.Mode{api.DirMode, api.FileMode, api.ExecMode, api.LinkMode}
	right := 0
	for range 20000 {
		var l []api.TreeEntry
		var raw string
		for range 1 + r.Intn(4) {
			name := ""
			for range 1 + r.Intn(3) {
				name += string("a-0. "[r.Intn(5)])
			}
			e := of(modes[r.Intn(4)], name)
			l = append(l, e)
			raw += entry(strconv.FormatInt(int64(e.Mode), 8), name, 1)
		}
		good := isOrdered(l) && !slices.ContainsFunc(l, func(e api.TreeEntry) bool { return e.Name == "." || e.Name == ".." })
		got, err := object.ReadTree([]byte(raw))
		if good != (err == nil) || good && !slices.Equal(got, l) {
			t.Fatalf("%q: %v, %v", raw, got, err)
		}
		if good {
			right++
		}
		b, err := object.WriteTree(l)
		if err == nil {
			if got, err := object.ReadTree(b); err != nil || !isOrdered(got) || len(got) != len(l) {
				t.Fatalf("%v: %q, %v", l, b, err)
			}
		}
		slices.Reverse(l)
		if same, _ := object.WriteTree(l); !bytes.Equal(same, b) {
			t.Fatalf("%v: %q and %q", l, b, same)
		}
	}
	if right < 1000 {
		t.Errorf("only %d were right", right)
	}
}
