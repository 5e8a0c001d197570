package store_test

import (
	"bytes"
	"compress/zlib"
	"errors"
	"math"
	"slices"
	"strings"
	"testing"

	"gitlike/api"
	"gitlike/digest"
	"gitlike/object"
	"gitlike/pack"
	"gitlike/store"
)

func blob(s string) api.Object { return api.Object{Kind: api.Blob, Data: []byte(s)} }

// idOf is the id of a blob.
func idOf(text string) api.ID {
	id, err := object.ID(blob(text))
	if err != nil {
		panic(err)
	}
	return id
}

// idsOf is the ids of blobs.
func idsOf(texts ...string) []api.ID {
	var l []api.ID
	for _, x := range texts {
		l = append(l, idOf(x))
	}
	return l
}

func byBytes(x, y api.ID) int { return bytes.Compare(x[:], y[:]) }

// roomy is a disk with room for all that is done here.
func roomy() *api.Disk { return api.NewDisk(1 << 30) }

func open(t *testing.T, d *api.Disk) *store.Store {
	t.Helper()
	s, err := store.Open(d)
	if err != nil || s == nil {
		t.Fatalf("Open: %v, %v", s, err)
	}
	return s
}

func put(t *testing.T, s *store.Store, texts ...string) {
	t.Helper()
	for _, x := range texts {
		if id, err := s.Put(blob(x)); err != nil || id != idOf(x) {
			t.Fatalf("Put(%.20q): %v, %v", x, id, err)
		}
	}
}

// addPack wants AddPack to take a pack that has just these blobs, in this order.
func addPack(t *testing.T, s *store.Store, b []byte, texts ...string) {
	t.Helper()
	ids, err := s.AddPack(b)
	if err != nil || !slices.Equal(ids, idsOf(texts...)) {
		t.Fatalf("AddPack: %v, %v", ids, err)
	}
}

func repack(t *testing.T, s *store.Store, texts ...string) {
	t.Helper()
	if err := s.Repack(idsOf(texts...)); err != nil {
		t.Fatalf("Repack: %v", err)
	}
}

// has wants the store to have just these blobs.
func has(t *testing.T, name string, s *store.Store, texts ...string) {
	t.Helper()
	want := slices.Compact(slices.SortedFunc(slices.Values(idsOf(texts...)), byBytes))
	if l := s.All(); !slices.Equal(l, want) {
		t.Fatalf("%s: it has %d objects for %d", name, len(l), len(want))
	}
	for _, x := range texts {
		gets(t, name, s, x)
	}
}

// bothHave wants that of a store, and of one that is opened on its disk, and on a copy of it.
func bothHave(t *testing.T, name string, s *store.Store, d *api.Disk, texts ...string) {
	t.Helper()
	has(t, name, s, texts...)
	has(t, name+", opened again", open(t, d), texts...)
	has(t, name+", opened on a copy", open(t, d.Copy()), texts...)
}

// gets wants the store to have that blob.
func gets(t *testing.T, name string, s *store.Store, text string) {
	t.Helper()
	o, err := s.Get(idOf(text))
	if err != nil || o.Kind != api.Blob || string(o.Data) != text || !s.Has(idOf(text)) {
		t.Fatalf("%s: Get of %.20q: %d bytes, %v", name, text, len(o.Data), err)
	}
}

// fails wants Get to answer that error, of that blob, and nothing beside it.
func fails(t *testing.T, name string, s *store.Store, text string, want api.Errno) {
	t.Helper()
	o, err := s.Get(idOf(text))
	isOf(t, name, err, idOf(text), want)
	if o.Kind != 0 || len(o.Data) != 0 {
		t.Errorf("%s: %v", name, o)
	}
}

// isOf wants an *api.IDError of that id and number.
func isOf(t *testing.T, name string, err error, id api.ID, want api.Errno) {
	t.Helper()
	var e *api.IDError
	if !errors.As(err, &e) || e.ID != id || e.Err != want {
		t.Errorf("%s: %v for %v", name, err, want)
	}
}

// squeezed is a zlib stream, by another program than this one.
func squeezed(b []byte) []byte {
	var z bytes.Buffer
	w := zlib.NewWriter(&z)
	w.Write(b)
	w.Close()
	return z.Bytes()
}

// encoded is a blob with its header.
func encoded(text string) []byte {
	b, err := object.Encode(blob(text))
	if err != nil {
		panic(err)
	}
	return b
}

// looseName is where a blob lies by itself.
func looseName(text string) string {
	h := digest.Hex(idOf(text))
	return "objects/" + h[:2] + "/" + h[2:]
}

// write writes a file that is safe.
func write(t *testing.T, d *api.Disk, name string, b []byte) {
	t.Helper()
	err := errors.Join(d.Create(name), d.Append(name, b), d.Sync(name), d.SyncDir())
	if err != nil {
		t.Fatal(err)
	}
}

// rewrite writes another file in the place of one.
func rewrite(t *testing.T, d *api.Disk, name string, b []byte) {
	t.Helper()
	if err := d.Remove(name); err != nil {
		t.Fatal(err)
	}
	write(t, d, name, b)
}

// bytesOf is what a file has.
func bytesOf(t *testing.T, d *api.Disk, name string) []byte {
	t.Helper()
	b, err := d.ReadAt(name, 0, math.MaxInt)
	if err != nil {
		t.Fatal(err)
	}
	return b
}

// picture is all that a disk has.
func picture(t *testing.T, d *api.Disk) string {
	t.Helper()
	var all strings.Builder
	for _, name := range d.List() {
		all.WriteString(name + ": " + string(bytesOf(t, d, name)) + "\n")
	}
	return all.String()
}

// packOf is a pack of blobs.
func packOf(t *testing.T, texts ...string) []byte {
	t.Helper()
	return thinOf(t, nil, texts...)
}

// thinOf is a pack of blobs, for who has others.
func thinOf(t *testing.T, has []string, texts ...string) []byte {
	t.Helper()
	b, err := pack.Thin(blobs(texts...), blobs(has...))
	if err != nil {
		t.Fatal(err)
	}
	return b
}

func blobs(texts ...string) []api.Object {
	var l []api.Object
	for _, x := range texts {
		l = append(l, blob(x))
	}
	return l
}

// stemOf is how the names of a pack's files begin.
func stemOf(b []byte) string {
	return "objects/pack/pack-" + digest.Hex(api.ID(b[len(b)-20:]))
}

// idxOf is a pack's index.
func idxOf(t *testing.T, b []byte, bases ...api.Object) []byte {
	t.Helper()
	places, err := pack.Places(b, bases)
	if err != nil {
		t.Fatal(err)
	}
	idx, err := pack.WriteIdx(places, api.ID(b[len(b)-20:]))
	if err != nil {
		t.Fatal(err)
	}
	return idx
}

// writePack writes a pack, and its index.
func writePack(t *testing.T, d *api.Disk, b []byte) {
	t.Helper()
	write(t, d, stemOf(b)+".pack", b)
	write(t, d, stemOf(b)+".idx", idxOf(t, b))
}

// isRepacked wants the store's files to be just one pack, with its index, that has these blobs; none, if there are none.
func isRepacked(t *testing.T, name string, d *api.Disk, texts ...string) {
	t.Helper()
	var files []string
	for _, x := range d.List() {
		if strings.HasPrefix(x, "objects/") {
			files = append(files, x)
		}
	}
	if len(texts) == 0 && len(files) == 0 {
		return
	}
	if len(files) != 2 {
		t.Fatalf("%s: %q", name, files)
	}
	b := bytesOf(t, d, files[1])
	if l, err := pack.Read(b, nil); err != nil || len(l) != len(texts) {
		t.Fatalf("%s: %d objects, %v", name, len(l), err)
	}
	if files[1] != stemOf(b)+".pack" || files[0] != stemOf(b)+".idx" || !bytes.Equal(bytesOf(t, d, files[0]), idxOf(t, b)) {
		t.Fatalf("%s: %q", name, files)
	}
}

// long is a text of many lines; others that differ little from it are deltas in a pack.
var long = strings.Repeat("a long text, of many lines\n", 40)
