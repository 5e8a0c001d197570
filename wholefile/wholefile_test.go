package wholefile_test

import (
	"slices"
	"testing"

	"gitlike/api"
	"gitlike/wholefile"
)

func is(t *testing.T, name string, err error, want api.Errno) {
	t.Helper()
	if api.Tell(err) != want {
		t.Errorf("%s: %v for %d", name, err, want)
	}
}

// has wants a file to have just those bytes.
func has(t *testing.T, d *api.Disk, name, want string) {
	t.Helper()
	if b, err := wholefile.Read(d, name); err != nil || string(b) != want {
		t.Errorf("%s: %q, %v", name, b, err)
	}
}

// TestWriteRead: what was written is read, and its bytes are safe, its name is not.
func TestWriteRead(t *testing.T) {
	d := api.NewDisk(1000)
	is(t, "Write", wholefile.Write(d, "a", []byte("bytes")), api.OK)
	has(t, d, "a", "bytes")
	d.SyncDir()
	is(t, "Write", wholefile.Write(d, "b", nil), api.OK)
	has(t, d, "b", "")
	d.Crash(0, 0)
	has(t, d, "a", "bytes")
	_, err := wholefile.Read(d, "b")
	is(t, "a name that is not safe", err, api.ErrFile)
}

// TestWriteOver: a file that was left behind is removed.
func TestWriteOver(t *testing.T) {
	d := api.NewDisk(10)
	is(t, "Write", wholefile.Write(d, "a", []byte("left over")), api.OK)
	is(t, "Write over it", wholefile.Write(d, "a", []byte("ten bytes!")), api.OK)
	has(t, d, "a", "ten bytes!")
	is(t, "no room", wholefile.Write(d, "b", []byte("x")), api.ErrRoom)
	has(t, d, "a", "ten bytes!")
}

// TestWriteFails: each operation failing.
func TestWriteFails(t *testing.T) {
	for _, left := range []bool{false, true} {
		for after := 0; ; after++ {
			d := api.NewDisk(1000)
			if left {
				wholefile.Write(d, "a", []byte("left over"))
			}
			d.Fail(after, 1)
			err := wholefile.Write(d, "a", []byte("bytes"))
			d.Fail(0, 0)
			if err == nil {
				want := 3
				if left {
					want = 5
				}
				if after != want {
					t.Errorf("%d operations", after)
				}
				break
			}
			is(t, "Write", err, api.ErrDisk)
			is(t, "Write again", wholefile.Write(d, "a", []byte("bytes")), api.OK)
			has(t, d, "a", "bytes")
		}
	}
}

// TestNoDisk: a disk that NewDisk has not made fails.
func TestNoDisk(t *testing.T) {
	d := &api.Disk{}
	is(t, "Write", wholefile.Write(d, "a", []byte("bytes")), api.ErrDisk)
	_, err := wholefile.Read(d, "a")
	is(t, "Read", err, api.ErrFile)
}

// TestMemory: what is handed in is not kept, and what is answered is new.
func TestMemory(t *testing.T) {
	d := api.NewDisk(1000)
	b := []byte("bytes and room")
	is(t, "Write", wholefile.Write(d, "a", b[:5]), api.OK)
	if string(b) != "bytes and room" {
		t.Errorf("%q", b)
	}
	clear(b)
	has(t, d, "a", "bytes")
	one, _ := wholefile.Read(d, "a")
	clear(one)
	has(t, d, "a", "bytes")
	if !slices.Equal(d.List(), []string{"a"}) {
		t.Errorf("files: %q", d.List())
	}
}
