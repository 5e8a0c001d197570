package pack

import (
	"testing"

	"gitlike/api"
	"gitlike/packentry"
)

// TestFarBases: no delta stands on an entry that a distance cannot lead to.
func TestFarBases(t *testing.T) {
	o := api.Object{Kind: api.Blob}
	b := base{Object: o, begin: 12}
	if !b.mayBear(o, 12+packentry.MostDistance) || b.mayBear(o, 13+packentry.MostDistance) {
		t.Error("the greatest distance")
	}
	b.begin = elsewhere
	if !b.mayBear(o, 13+packentry.MostDistance) {
		t.Error("a base that is not in the pack")
	}
}
