package act

import (
	"slices"

	"till/api"
	"till/code"
)

// writeKind is of acts that change counters and set prices.
type writeKind struct{}

func (writeKind) rest(a api.Act) api.Act {
	a.Sure, a.Lines, a.Guards, a.Sets, a.Merge = false, nil, nil, nil, api.Merge{}
	return a
}

func (writeKind) check(c api.Config, a api.Act) api.Errno {
	switch {
	case len(a.Lines)+len(a.Sets) == 0 || !linesMayBe(c, a.Lines):
		return api.ErrActLine
	case !guardsMayBe(c, a.Guards):
		return api.ErrActGuard
	case !setsMayBe(c, a.Sets) || !versionsMayBe(a):
		return api.ErrActSet
	case !mergeMayBe(c, a.Merge) || a.Sure && !plain(a):
		return api.ErrActMerge
	}
	return api.OK
}

func linesMayBe(c api.Config, lines []api.Line) bool {
	if len(lines) > api.MaxLines {
		return false
	}
	for _, x := range lines {
		if !isCounter(c, x.Counter) || x.Change == 0 || !within(x.Change, -api.MaxAmount, api.MaxAmount) {
			return false
		}
	}
	return true
}

func guardsMayBe(c api.Config, guards []api.Guard) bool {
	if len(guards) > api.MaxGuards {
		return false
	}
	for _, x := range guards {
		if !guardMayBe(c, x) {
			return false
		}
	}
	return true
}

func guardMayBe(c api.Config, x api.Guard) bool {
	switch x.Kind {
	case api.GuardLeast, api.GuardMost, api.GuardIs:
		return isCounter(c, x.What) && within(x.N, -api.MaxBound, api.MaxBound)
	case api.GuardVersion:
		return isPrice(c, x.What) && within(x.N, 0, api.MaxNumber)
	}
	return false
}

// setsMayBe leaves the versions out: those that an act asks for and those that an entry tells are of unlike bounds.
func setsMayBe(c api.Config, sets []api.Set) bool {
	if len(sets) > api.MaxSets {
		return false
	}
	for i, x := range sets {
		again := slices.ContainsFunc(sets[:i], func(y api.Set) bool { return y.Price == x.Price })
		if again || !isPrice(c, x.Price) || !within(x.N, 0, api.MaxAmount) {
			return false
		}
	}
	return true
}

// versionsMayBe: a version is asked for under MergeClamp alone, since no other merge looks at it.
func versionsMayBe(a api.Act) bool {
	for _, x := range a.Sets {
		asked := a.Merge.Kind == api.MergeClamp && within(x.Version, 0, api.MaxNumber)
		if x.Version != -1 && !asked {
			return false
		}
	}
	return true
}

func mergeMayBe(c api.Config, m api.Merge) bool {
	if m.Kind == api.MergeOther {
		return len(m.Other) > 0 && linesMayBe(c, m.Other)
	}
	return within(m.Kind, api.MergeNone, api.MergeForce) && len(m.Other) == 0
}

// plain tells whether a write is of lines alone: nothing but rights can then stand in its way.
func plain(a api.Act) bool {
	return len(a.Guards) == 0 && len(a.Sets) == 0 && a.Merge.Kind == api.MergeNone
}

func (writeKind) encode(w *code.Writer, a api.Act) {
	writeFlag(w, a.Sure)
	writeList(w, a.Lines, writeLine)
	writeList(w, a.Guards, writeGuard)
	writeList(w, a.Sets, writeSet)
	writeSmall(w, a.Merge.Kind)
	writeList(w, a.Merge.Other, writeLine)
}

func (writeKind) decode(r reader, a *api.Act) {
	a.Sure = r.flag()
	a.Lines = readList(r, readLine)
	a.Guards = readList(r, readGuard)
	a.Sets = readList(r, readSet)
	a.Merge.Kind = r.small()
	a.Merge.Other = readList(r, readLine)
}

func (writeKind) endMayBe(c api.Config, e api.Entry) bool {
	if e.N != 0 || !linesMayBe(c, e.Made) || !setsMayBe(c, e.Sets) {
		return false
	}
	for _, x := range e.Sets {
		if !within(x.Version, 1, api.MaxNumber) {
			return false
		}
	}
	switch e.Outcome {
	case api.Applied, api.Merged:
		return !madeNothing(e)
	case api.Rejected:
		return madeNothing(e)
	}
	return false
}

func (writeKind) encodeEnd(w *code.Writer, e api.Entry) {
	writeList(w, e.Made, writeLine)
	writeList(w, e.Sets, writeMadeSet)
}

func (writeKind) decodeEnd(r reader, e *api.Entry) {
	e.Made = readList(r, readLine)
	e.Sets = readList(r, readMadeSet)
}

func writeLine(w *code.Writer, x api.Line) {
	writeSmall(w, x.Counter)
	writeSigned(w, x.Change)
}

func readLine(r reader) api.Line {
	counter := r.small()
	return api.Line{Counter: counter, Change: r.signed(api.MaxAmount)}
}

func writeGuard(w *code.Writer, x api.Guard) {
	writeSmall(w, x.Kind)
	writeSmall(w, x.What)
	writeSigned(w, x.N)
}

func readGuard(r reader) api.Guard {
	number, what := r.small(), r.small()
	return api.Guard{Kind: number, What: what, N: r.signed(api.MaxBound)}
}

// writeSet: -1 is the least version of an act's setting, and a Var has no sign; writeMadeSet's begin with 1.
func writeSet(w *code.Writer, x api.Set) {
	x.Version++
	writeMadeSet(w, x)
}

func readSet(r reader) api.Set {
	x := readMadeSet(r)
	x.Version--
	return x
}

func writeMadeSet(w *code.Writer, x api.Set) {
	writeSmall(w, x.Price)
	w.Var(uint64(x.Version))
	w.Var(uint64(x.N))
}

// readMadeSet takes a version one above MaxNumber, too, for readSet's sake.
func readMadeSet(r reader) api.Set {
	price, version := r.small(), r.number(api.MaxNumber+1)
	return api.Set{Price: price, Version: int(version), N: int64(r.number(api.MaxAmount))}
}
