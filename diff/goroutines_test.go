package diff_test

import (
	"fmt"
	"runtime"
	"slices"
	"sync"
	"testing"
	"time"

	"gitlike/api"
	"gitlike/diff"
)

// manyFiles is gone and new files of which some take longer to compare than others, and many pairs are as alike as others.
func manyFiles() (was, now []api.Entry, blobs []api.Object) {
	for i := range 60 {
		x := numbered(i%7, i%7+1+i*i%500)
		y := numbered(i%5, i%5+1+i*i%400) + fmt.Sprint("new ", i%11)
		was = append(was, file(fmt.Sprintf("g%d", i), x))
		now = append(now, file(fmt.Sprintf("n%d", i), y))
		blobs = append(blobs, blob(x), blob(y))
	}
	return was, now, blobs
}

// TestTurnsHoweverTheyRun: 10.6, the answer is the same, however many goroutines run at once, and however many calls there are at a time.
func TestTurnsHoweverTheyRun(t *testing.T) {
	was, now, blobs := manyFiles()
	defer runtime.GOMAXPROCS(runtime.GOMAXPROCS(1))
	want, err := diff.Turns(was, now, blobs, 1)
	if err != nil || len(want) == 0 {
		t.Fatal(len(want), err)
	}
	for _, procs := range []int{1, 2, 3, 8, 32} {
		runtime.GOMAXPROCS(procs)
		answers := make([][]api.Turn, 16)
		var calls sync.WaitGroup
		for i := range answers {
			calls.Go(func() { answers[i], _ = diff.Turns(was, now, blobs, 1) })
		}
		calls.Wait()
		for _, got := range answers {
			if !slices.Equal(got, want) {
				t.Errorf("with %d at once: %s\nnot %s", procs, showTurns(got), showTurns(want))
			}
		}
	}
}

// TestTurnsLeaveNoGoroutine: 10.6, all of them have ended, whatever was asked.
func TestTurnsLeaveNoGoroutine(t *testing.T) {
	was, now, blobs := manyFiles()
	before := runtime.NumGoroutine()
	for range 20 {
		diff.Turns(was, now, blobs, 1)
		diff.Turns(was, now, blobs, 101)
		diff.Turns(was, now, nil, 1)
		diff.Turns(was[:1], now, blobs, 1)
		diff.Turns(was, nil, blobs, 1)
		diff.Turns(nil, now, blobs, 1)
		diff.Turns(nil, list(api.Entry{}), blobs, 1)
	}
	// One that has said that it is done may need a moment to be gone.
	for range 1000 {
		if runtime.NumGoroutine() <= before {
			return
		}
		time.Sleep(time.Millisecond)
	}
	t.Errorf("%d goroutines, %d before", runtime.NumGoroutine(), before)
}
