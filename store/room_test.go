package store_test

import (
	"strings"
	"testing"

	"gitlike/api"
)

// spare is a copy of a disk that has so much room and no more.
func spare(t *testing.T, d *api.Disk, room int) *api.Disk {
	t.Helper()
	for _, name := range d.List() {
		room += len(bytesOf(t, d, name))
	}
	c := api.NewDisk(room)
	for _, name := range d.List() {
		write(t, c, name, bytesOf(t, d, name))
	}
	return c
}

// TestNoRoom: 6.6, room that is refused: what was there is there, and what was begun is taken away again.
func TestNoRoom(t *testing.T) {
	for _, a := range append(append(puts(), adds(t)...), repacks(t)...) {
		if a.lossy {
			continue
		}
		laid := roomy()
		a.lay(t, laid)
		for room, step := 0, 1; ; room += step {
			d := spare(t, laid, room)
			s := open(t, d)
			before := picture(t, d)
			err := a.do(s)
			if err != nil && api.Tell(err) != api.ErrRoom {
				t.Fatalf("%s: %v", a.name, err)
			}
			a.is(t, a.name, s, err == nil)
			a.is(t, a.name+", opened again", open(t, d), err == nil)
			if after := picture(t, d); err != nil && after != before && !mayLeave(a.name) {
				t.Errorf("%s: something is left", a.name)
			}
			if err == nil {
				break
			}
			d.Crash(0, 0)
			a.is(t, a.name+", and a crash", open(t, d), false)
			if room > 40 {
				step = 17
			}
		}
	}
}

// mayLeave tells whether some of an act may be done when there is no room for the rest: it lays one object behind another, or takes files away that an earlier call left.
func mayLeave(name string) bool {
	return strings.Contains(name, "thin") || strings.Contains(name, "taken") || strings.Contains(name, "spoilt") || strings.Contains(name, "left over")
}
