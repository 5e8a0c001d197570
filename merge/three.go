package merge

// three is a thing as it was, and what became of it on two sides.
type three[T any] struct{ base, ours, theirs T }

// choose is what becomes of a thing, if both sides made the same of it, or one of them left it alone; else they do not agree. Ours is the first to be taken: things that are the same may differ in what same does not look at.
func choose[T any](x three[T], same func(x, y T) bool) (chosen T, agreed bool) {
	switch {
	case same(x.ours, x.theirs), same(x.theirs, x.base):
		return x.ours, true
	case same(x.ours, x.base):
		return x.theirs, true
	}
	return chosen, false
}
