package draft

import (
	"slices"

	"till/api"
	"till/book"
	"till/share"
)

// ground is what a draft's acts stand on: it does not change when one is issued.
type ground struct {
	config api.Config
	till   int
	base   api.State
}

// Base tells the state of the entries taken.
func (g *ground) Base() api.State { return copyOfState(g.base) }

// behind tells the state behind one more entry.
func (g *ground) behind(e api.Entry) (api.State, api.Errno) { return book.Fold(g.config, g.base, e) }

// isOwn tells whether an entry is of an act of this till. A fence's act is all zero, and is no act of till 0.
func (g *ground) isOwn(e api.Entry) bool { return e.Act.Kind != api.ActNone && e.Act.Till == g.till }

func (g *ground) fencedBy(e api.Entry) bool {
	return e.Act.Kind == api.ActNone && e.Fence == g.till
}

// last, generation and owes are what the base tells of this till.
func (g *ground) last() uint64 { return of(g.base.Last, g.till) }

func (g *ground) generation() uint64 { return of(g.base.Gen, g.till) }

func (g *ground) owes() bool { return of(g.base.Owed, g.till) }

// of tells a till's item, zero of a till that is none: such a one has a draft, too, and that must not panic.
func of[T any](list []T, till int) T {
	if till < 0 || till >= len(list) {
		var none T
		return none
	}
	return list[till]
}

// available is what the till holds that acts which are pending don't need, and may tells whether it is enough for lines.
func (g *ground) available(pending []api.Act) []api.Right {
	return share.Available(g.base, pending, g.till)
}

func (g *ground) may(pending []api.Act, lines []api.Line) bool {
	return share.May(g.base, pending, g.till, lines)
}

// enough tells whether what an act needs is available.
func (g *ground) enough(pending []api.Act, a api.Act) bool {
	switch a.Kind {
	case api.ActWrite:
		return !a.Sure || g.may(pending, a.Lines)
	case api.ActGive, api.ActPass:
		return g.has(pending, a.Right)
	case api.ActYield:
		return g.has(pending, a.Rights...)
	}
	return true
}

// has tells whether rights of unlike kinds are available, each 1 or more.
func (g *ground) has(pending []api.Act, rights ...api.Right) bool {
	available := g.available(pending)
	for _, x := range rights {
		there := func(y api.Right) bool { return x.Counter == y.Counter && x.Way == y.Way && x.N <= y.N }
		if !slices.ContainsFunc(available, there) {
			return false
		}
	}
	return true
}
