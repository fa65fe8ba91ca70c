package act

import (
	"till/api"
	"till/code"
)

// kind is what acts of one kind must be, and how they stand in bytes behind their head; its end is what an entry tells of the act beside it.
type kind interface {
	// rest is an act without the fields that the kind uses.
	rest(a api.Act) api.Act
	// check looks at all but the kind, the head, and the rights one by one.
	check(c api.Config, a api.Act) api.Errno
	encode(w *code.Writer, a api.Act)
	decode(r reader, a *api.Act)
	endMayBe(c api.Config, e api.Entry) bool
	// encodeEnd and decodeEnd go on behind the outcome.
	encodeEnd(w *code.Writer, e api.Entry)
	decodeEnd(r reader, e *api.Entry)
}

func kindOf(number int) (kind, bool) {
	switch number {
	case api.ActWrite:
		return writeKind{}, true
	case api.ActAsk:
		return askKind{}, true
	case api.ActGive:
		return giveKind{}, true
	case api.ActPass:
		return passKind{}, true
	case api.ActYield:
		return yieldKind{}, true
	}
	return nil, false
}

// rightsOf tells which rights an act names, and how many each of them may be at most.
func rightsOf(k kind, a api.Act) ([]api.Right, int64) {
	switch k.(type) {
	case askKind, giveKind, passKind:
		return []api.Right{a.Right}, api.MaxAmount
	case yieldKind:
		return a.Rights, api.MaxHeld
	}
	return nil, 0
}

// unused is an act with nothing in what its kind uses: what is left may not be there.
func unused(k kind, a api.Act) api.Act {
	a.Kind, a.Till, a.Number = api.ActNone, 0, 0
	return k.rest(a)
}

// zeroAct takes nil and empty lists for one, so no == of the whole would do.
func zeroAct(a api.Act) bool {
	return a.Till == 0 && a.Number == 0 && a.Kind == api.ActNone && !a.Sure &&
		len(a.Lines) == 0 && len(a.Guards) == 0 && len(a.Sets) == 0 &&
		a.Merge.Kind == api.MergeNone && len(a.Merge.Other) == 0 &&
		a.Right == (api.Right{}) && a.To == 0 && a.Gen == 0 && len(a.Rights) == 0
}

func zeroEntry(e api.Entry) bool {
	return e.Position == 0 && zeroAct(e.Act) && e.Outcome == api.OutcomeNone && madeNothing(e) && e.N == 0 &&
		e.Fence == 0 && e.Gen == 0
}

func madeNothing(e api.Entry) bool { return len(e.Made) == 0 && len(e.Sets) == 0 }

func isTill(c api.Config, till int) bool { return 0 <= till && till < c.Tills }

func isCounter(c api.Config, counter int) bool { return 0 <= counter && counter < len(c.Counters) }

func isPrice(c api.Config, price int) bool { return 0 <= price && price < len(c.Prices) }

// within tells whether n lies between two bounds, both of them taken in.
func within[T int | int64 | uint64](n, least, most T) bool { return least <= n && n <= most }
