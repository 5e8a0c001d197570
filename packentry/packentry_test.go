package packentry_test

import (
	"bytes"
	"testing"

	"gitlike/api"
	"gitlike/packentry"
)

// TestRead: what Make made is read, whatever stands behind it; cut short it is none.
func TestRead(t *testing.T) {
	for _, h := range []packentry.Head{
		{Kind: api.Commit},
		{Kind: api.Tag},
		{Kind: packentry.ByDistance, Distance: 1},
		{Kind: packentry.ByDistance, Distance: packentry.MostDistance},
		{Kind: packentry.ByID, BaseID: api.ID{1, 2, 3, 19: 9}},
	} {
		for _, n := range []int{0, 1, 15, 16, 3000} {
			data := bytes.Repeat([]byte("x"), n)
			h.Size = n
			b := packentry.Make(h, data)
			got, out, used, err := packentry.Read(append(bytes.Clone(b), "more"...))
			if err != nil || got != h || used != len(b) || !bytes.Equal(out, data) {
				t.Errorf("%v: %v, %d bytes, %d, %v", h, got, len(out), used, err)
			}
			for cut := range b {
				refused(t, b[:cut])
			}
		}
	}
}

// refused wants ErrPack, and nothing beside it.
func refused(t *testing.T, b []byte) {
	t.Helper()
	h, data, used, err := packentry.Read(b)
	if api.Tell(err) != api.ErrPack || h != (packentry.Head{}) || len(data) > 0 || used != 0 {
		t.Errorf("% x: %v, %d bytes, %d, %v", b, h, len(data), used, err)
	}
}

// TestReadRefuses: kinds that are none, and sizes that are not what comes out, or too much.
func TestReadRefuses(t *testing.T) {
	abc := packentry.Make(packentry.Head{Kind: api.Blob}, []byte("abc"))
	for _, first := range []byte{0x03, 0x53, 0x32, 0x34, 0x30} {
		refused(t, append([]byte{first}, abc[1:]...))
	}
	refused(t, packentry.Make(packentry.Head{Kind: api.Blob}, make([]byte, api.MaxBlob+1)))
	refused(t, packentry.Make(packentry.Head{Kind: packentry.ByID}, make([]byte, 200001)))
	if _, out, _, err := packentry.Read(packentry.Make(packentry.Head{Kind: packentry.ByID}, make([]byte, 200000))); err != nil || len(out) != 200000 {
		t.Errorf("the longest delta: %d bytes, %v", len(out), err)
	}
}
