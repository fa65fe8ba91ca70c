package book

import (
	"slices"

	"till/api"
)

// alike holds two lists against each other: whether they are as long as one another, and each two items at one place are as like tells. So a nil list and an empty one are the same.
func alike[A, B any](a []A, b []B, like func(x A, y B) bool) bool {
	if len(a) != len(b) {
		return false
	}
	for i, x := range a {
		if !like(x, b[i]) {
			return false
		}
	}
	return true
}

func equal[T comparable](a, b []T) bool {
	return alike(a, b, func(x, y T) bool { return x == y })
}

func sameEntry(d, e api.Entry) bool {
	return d.Position == e.Position && sameAct(d.Act, e.Act) && d.Outcome == e.Outcome &&
		equal(d.Made, e.Made) && equal(d.Sets, e.Sets) && d.N == e.N && d.Fence == e.Fence && d.Gen == e.Gen
}

func sameAct(a, b api.Act) bool {
	return a.Head == b.Head && a.Kind == b.Kind && a.Sure == b.Sure &&
		equal(a.Lines, b.Lines) && equal(a.Guards, b.Guards) && equal(a.Sets, b.Sets) &&
		a.Merge.Kind == b.Merge.Kind && equal(a.Merge.Other, b.Merge.Other) &&
		a.Right == b.Right && a.To == b.To && a.Gen == b.Gen && equal(a.Rights, b.Rights)
}

func copyOfAct(a api.Act) api.Act {
	a.Lines, a.Guards, a.Sets = slices.Clone(a.Lines), slices.Clone(a.Guards), slices.Clone(a.Sets)
	a.Merge.Other, a.Rights = slices.Clone(a.Merge.Other), slices.Clone(a.Rights)
	return a
}

func copyOfState(s api.State) api.State {
	s.Pools, s.Prices = slices.Clone(s.Pools), slices.Clone(s.Prices)
	for i, pool := range s.Pools {
		s.Pools[i].Held = slices.Clone(pool.Held)
	}
	s.Last, s.Gen, s.Owed = slices.Clone(s.Last), slices.Clone(s.Gen), slices.Clone(s.Owed)
	return s
}
