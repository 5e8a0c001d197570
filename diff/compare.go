package diff

import (
	"sync"

	"gitlike/api"
	"gitlike/object"
)

// sameID is the rank of a pair whose ids are the same. Of any other pair the rank is its similarity, or 0, if there is none.
const sameID = whole + 1

// workers: so many goroutines compare files.
const workers = 8

// file is a file that may be in a pair.
type file struct {
	id      api.ID
	hasText bool // else it is known by its id alone
	text    text
}

// withTexts lays the texts beside files, as far as they are among blobs.
func withTexts(gone, fresh []api.Entry, blobs []api.Object) (g, f []file) {
	texts := map[api.ID]text{}
	n := numbering{}
	wanted := ids(gone, fresh)
	for _, o := range blobs {
		id, err := object.ID(o)
		if _, asked := wanted[id]; asked && err == nil && o.Kind == api.Blob {
			texts[id] = n.text(o.Data)
		}
	}
	return files(gone, texts), files(fresh, texts)
}

// ids is the ids of files.
func ids(lists ...[]api.Entry) map[api.ID]struct{} {
	set := map[api.ID]struct{}{}
	for _, l := range lists {
		for _, e := range l {
			set[e.ID] = struct{}{}
		}
	}
	return set
}

func files(l []api.Entry, texts map[api.ID]text) []file {
	var all []file
	for _, e := range l {
		t, there := texts[e.ID]
		all = append(all, file{e.ID, there && e.Mode != api.LinkMode, t})
	}
	return all
}

// compare is the ranks of all pairs: a row for each file that is gone. Goroutines take the rows' numbers from a channel; each row is written by the one that has taken it, and read when all have ended. So it is not to be seen which of them that was.
func compare(gone, fresh []file) [][]byte {
	ranks := make([][]byte, len(gone))
	work := make(chan int)
	var running sync.WaitGroup
	for range min(workers, len(gone)) {
		running.Add(1)
		go func() {
			defer running.Done()
			for i := range work {
				ranks[i] = rankAll(gone[i], fresh)
			}
		}()
	}
	for i := range gone {
		work <- i
	}
	close(work)
	running.Wait()
	return ranks
}

// rankAll is the ranks of a file that is gone and each of the new ones.
func rankAll(gone file, fresh []file) []byte {
	row := make([]byte, len(fresh))
	for i, f := range fresh {
		row[i] = byte(rank(gone, f))
	}
	return row
}

func rank(x, y file) int {
	switch {
	case x.id == y.id:
		return sameID
	case x.hasText && y.hasText:
		return likeness(x.text, y.text)
	}
	return 0
}
