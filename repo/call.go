package repo

import "gitlike/api"

// call is one call of a repository. At the first error it gives up by a panic, which answer recovers.
type call struct {
	*Repo
	linked map[api.ID][]api.ID // what objects name, of those that it has read for that
	whole  map[api.ID]struct{} // objects of which it has seen that all that they reach is there
}

// failure is what the panic of a call has that gives up.
type failure struct{ err error }

// answer makes a call: what it answers, or the error with which it gave up. Any other panic is a fault of the program, and goes on.
func answer[T any](r *Repo, do func(c *call) T) (got T, err error) {
	defer func() {
		if x := recover(); x != nil {
			gaveUp, is := x.(failure)
			if !is {
				panic(x)
			}
			err = gaveUp.err
			r.mistrust(err)
		}
	}()
	return do(&call{r, map[api.ID][]api.ID{}, map[api.ID]struct{}{}}), nil
}

// act makes a call that answers nothing but its error.
func act(r *Repo, do func(c *call)) error {
	_, err := answer(r, func(c *call) struct{} {
		do(c)
		return struct{}{}
	})
	return err
}

// need gives up, if there is an error.
func need(err error) {
	if err != nil {
		panic(failure{err})
	}
}

// refuse gives up with an error, if something is so.
func refuse(so bool, err error) {
	if so {
		need(err)
	}
}

// take is a value, or gives up with the error that came in its place.
func take[T any](value T, err error) T {
	need(err)
	return value
}
