package share

import (
	"till/api"
	"till/rule"
)

// kind is what rights are told apart by.
type kind struct {
	counter, way int
}

func kindOf(x api.Right) kind { return kind{counter: x.Counter, way: x.Way} }

// teller is whatever tells rights: an act's lines, its one right, a list of them.
type teller interface {
	rights() []api.Right
}

type lines []api.Line

func (l lines) rights() []api.Right { return rule.Needs(l) }

type single api.Right

func (x single) rights() []api.Right { return []api.Right{api.Right(x)} }

type list []api.Right

func (l list) rights() []api.Right { return l }

// addUp adds what something tells to what there is together of each kind.
func addUp[T teller](together map[kind]int64, something T) {
	for _, x := range something.rights() {
		together[kindOf(x)] += x.N
	}
}
