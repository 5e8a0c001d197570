package repo

import (
	"testing"

	"gitlike/api"
)

// TestGiveUp: a call that gives up answers its error, and nothing else; a panic of another kind is not hidden.
func TestGiveUp(t *testing.T) {
	got, err := answer(&Repo{}, func(c *call) int { return 7 + take(8, api.ErrStale) })
	if got != 0 || api.Tell(err) != api.ErrStale {
		t.Errorf("%d, %v", got, err)
	}
	if got, err := answer(&Repo{}, func(c *call) int { return 7 + take(8, nil) }); got != 15 || err != nil {
		t.Errorf("%d, %v", got, err)
	}
	defer func() {
		if x := recover(); x != "a fault" {
			t.Errorf("%v", x)
		}
	}()
	answer(&Repo{}, func(c *call) int { panic("a fault") })
}
