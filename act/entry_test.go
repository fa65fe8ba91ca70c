package act_test

import (
	"math"
	"slices"
	"testing"

	"till/act"
	"till/api"
)

func applied() api.Entry {
	a := loose()
	return api.Entry{Position: 7, Act: a, Outcome: api.Applied, Made: a.Lines, Sets: []api.Set{{Price: 0, Version: 1, N: 275}}}
}

func rejected() api.Entry { return api.Entry{Position: 7, Act: loose(), Outcome: api.Rejected} }

func granted() api.Entry {
	return api.Entry{Position: 7, Act: one(api.ActAsk, 0), Outcome: api.Granted, N: 10}
}

func done(a api.Act) api.Entry { return api.Entry{Position: 7, Act: a, Outcome: api.Done} }

func fence() api.Entry { return api.Entry{Position: 8, Fence: 1, Gen: 2} }

func entries() map[string]api.Entry {
	return map[string]api.Entry{
		"applied": applied(), "rejected": rejected(), "granted": granted(), "fence": fence(),
		"given": done(one(api.ActGive, 0)), "passed": done(one(api.ActPass, 1)), "yielded": done(acts()["yield"]),
	}
}

type changedEntry struct {
	what  string
	to    func(e *api.Entry)
	errno api.Errno
}

func lookEntry(t *testing.T, from func() api.Entry, list []changedEntry) {
	t.Helper()
	for _, x := range list {
		e := from()
		x.to(&e)
		if errno := act.CheckEntry(conf(), e); errno != x.errno {
			t.Errorf("%s: %d, want %d", x.what, errno, x.errno)
		}
	}
}

func TestP8_3PositionsAndActs(t *testing.T) {
	for name, e := range entries() {
		from := func() api.Entry { return e }
		if errno := act.CheckEntry(conf(), e); errno != api.OK {
			t.Errorf("%s: %d", name, errno)
		}
		lookEntry(t, from, []changedEntry{
			{name + " at 1", func(e *api.Entry) { e.Position = 1 }, api.OK},
			{name + " at the last", func(e *api.Entry) { e.Position = api.MaxLog }, api.OK},
			{name + " at 0", func(e *api.Entry) { e.Position = 0 }, api.ErrActEntry},
			{name + " too far", func(e *api.Entry) { e.Position = api.MaxLog + 1 }, api.ErrActEntry},
			{name + " farthest", func(e *api.Entry) { e.Position = math.MaxUint64 }, api.ErrActEntry},
			{name + " of kind 6", func(e *api.Entry) { e.Act.Kind = 6 }, api.ErrActKind},
			{name + " of kind 6 at 0", func(e *api.Entry) { e.Act.Kind, e.Position = 6, 0 }, api.ErrActEntry},
		})
		if e.Act.Kind == api.ActNone {
			continue
		}
		lookEntry(t, from, []changedEntry{
			{name + " of no till", func(e *api.Entry) { e.Act.Till = 2 }, api.ErrActHead},
			{name + " of no till, outcome 9", func(e *api.Entry) { e.Act.Till, e.Outcome, e.Gen = 2, 9, 1 }, api.ErrActHead},
			{name + " of no till at 0", func(e *api.Entry) { e.Act.Till, e.Position = 2, 0 }, api.ErrActEntry},
			{name + " with a fence", func(e *api.Entry) { e.Fence = 1 }, api.ErrActEntry},
			{name + " with a generation", func(e *api.Entry) { e.Gen = 1 }, api.ErrActEntry},
		})
	}
}

func TestP8_3Fences(t *testing.T) {
	list := []changedEntry{
		{"of till 0", func(e *api.Entry) { e.Fence = 0 }, api.OK},
		{"of till 2", func(e *api.Entry) { e.Fence = 2 }, api.ErrActEntry},
		{"of till -1", func(e *api.Entry) { e.Fence = -1 }, api.ErrActEntry},
		{"generation 1", func(e *api.Entry) { e.Gen = 1 }, api.OK},
		{"generation 0", func(e *api.Entry) { e.Gen = 0 }, api.ErrActEntry},
		{"the last generation", func(e *api.Entry) { e.Gen = api.MaxNumber }, api.OK},
		{"a generation too far", func(e *api.Entry) { e.Gen = api.MaxNumber + 1 }, api.ErrActEntry},
		{"an N", func(e *api.Entry) { e.N = -1 }, api.ErrActEntry},
		{"lines", func(e *api.Entry) { e.Made = []api.Line{{Change: 1}} }, api.ErrActEntry},
		{"settings", func(e *api.Entry) { e.Sets = []api.Set{{Version: 1}} }, api.ErrActEntry},
		{"empty lists", func(e *api.Entry) {
			e.Made, e.Sets, e.Act.Lines, e.Act.Rights = []api.Line{}, []api.Set{}, []api.Line{}, []api.Right{}
		}, api.OK},
		{"an act's till", func(e *api.Entry) { e.Act.Till = 1 }, api.ErrActEntry},
		{"an act's number", func(e *api.Entry) { e.Act.Number = 1 }, api.ErrActEntry},
	}
	for outcome := api.Applied; outcome <= api.Done; outcome++ {
		list = append(list, changedEntry{"an outcome", func(e *api.Entry) { e.Outcome = outcome }, api.ErrActEntry})
	}
	for _, f := range fields() {
		list = append(list, changedEntry{"an act's " + f.name, func(e *api.Entry) { f.fill(&e.Act) }, api.ErrActEntry})
	}
	lookEntry(t, fence, list)
}

func TestP8_3Writes(t *testing.T) {
	made := func(l []api.Line) func(e *api.Entry) { return func(e *api.Entry) { e.Made = l } }
	sets := func(l ...api.Set) func(e *api.Entry) { return func(e *api.Entry) { e.Sets = l } }
	set := func(price, version int, n int64) api.Set { return api.Set{Price: price, Version: version, N: n} }
	list := []changedEntry{
		{"no lines", made(nil), api.OK},
		{"no settings", sets(), api.OK},
		{"neither", func(e *api.Entry) { e.Made, e.Sets = nil, nil }, api.ErrActEntry},
		{"neither, merged", func(e *api.Entry) { e.Made, e.Sets, e.Outcome = nil, nil, api.Merged }, api.ErrActEntry},
		{"merged", func(e *api.Entry) { e.Outcome = api.Merged }, api.OK},
		{"an N", func(e *api.Entry) { e.N = 1 }, api.ErrActEntry},
		{"price 1", sets(set(1, 1, 0)), api.ErrActEntry},
		{"price -1", sets(set(-1, 1, 0)), api.ErrActEntry},
		{"a price twice", sets(set(0, 1, 0), set(0, 2, 0)), api.ErrActEntry},
		{"the greatest", sets(set(0, api.MaxNumber, api.MaxAmount)), api.OK},
		{"the least", sets(set(0, 1, 0)), api.OK},
		{"version 0", sets(set(0, 0, 0)), api.ErrActEntry},
		{"version -1", sets(set(0, -1, 0)), api.ErrActEntry},
		{"a version too far", sets(set(0, api.MaxNumber+1, 0)), api.ErrActEntry},
		{"too much", sets(set(0, 1, api.MaxAmount+1)), api.ErrActEntry},
		{"below 0", sets(set(0, 1, -1)), api.ErrActEntry},
	}
	for name, lines := range badLines() {
		list = append(list, changedEntry{"made: " + name, made(lines), api.ErrActEntry})
	}
	for name, lines := range goodLines() {
		list = append(list, changedEntry{"made: " + name, made(lines), api.OK})
	}
	for _, outcome := range []int{api.OutcomeNone, api.Rejected, api.Granted, api.Done, -1, 6, 256 + api.Applied} {
		list = append(list, changedEntry{"outcome", func(e *api.Entry) { e.Outcome = outcome }, api.ErrActEntry})
	}
	lookEntry(t, applied, list)
	lookEntry(t, rejected, []changedEntry{
		{"rejected", func(e *api.Entry) {}, api.OK},
		{"rejected with lines", made([]api.Line{{Change: 1}}), api.ErrActEntry},
		{"rejected with settings", sets(set(0, 1, 1)), api.ErrActEntry},
		{"rejected with an N", func(e *api.Entry) { e.N = 1 }, api.ErrActEntry},
		{"outcome none", func(e *api.Entry) { e.Outcome = api.OutcomeNone }, api.ErrActEntry},
		{"outcome done", func(e *api.Entry) { e.Outcome = api.Done }, api.ErrActEntry},
	})
}

func TestP8_3ManySettings(t *testing.T) {
	a := write()
	a.Sets = []api.Set{{Price: 0, Version: -1}}
	e := api.Entry{Position: 1, Act: a, Outcome: api.Merged}
	for price := range api.MaxSets {
		e.Sets = append(e.Sets, api.Set{Price: price, Version: 1})
	}
	if errno := act.CheckEntry(greatest(), e); errno != api.OK {
		t.Errorf("as many as go: %d", errno)
	}
	e.Sets = append(e.Sets, api.Set{Price: 9, Version: 1})
	if errno := act.CheckEntry(greatest(), e); errno != api.ErrActEntry {
		t.Errorf("one too many: %d", errno)
	}
}

func TestP8_3Rights(t *testing.T) {
	list := []changedEntry{
		{"none", func(e *api.Entry) { e.N = 0 }, api.OK},
		{"all", func(e *api.Entry) { e.N = 300 }, api.OK},
		{"more than was asked for", func(e *api.Entry) { e.N = 301 }, api.ErrActEntry},
		{"below 0", func(e *api.Entry) { e.N = -1 }, api.ErrActEntry},
	}
	for _, outcome := range []int{api.OutcomeNone, api.Applied, api.Merged, api.Rejected, api.Done, 6, -1} {
		list = append(list, changedEntry{"outcome", func(e *api.Entry) { e.Outcome = outcome }, api.ErrActEntry})
	}
	lookEntry(t, granted, list)
	for name, e := range entries() {
		if !slices.Contains([]int{api.ActAsk, api.ActGive, api.ActPass, api.ActYield}, e.Act.Kind) {
			continue
		}
		list := []changedEntry{
			{name + " with lines", func(e *api.Entry) { e.Made = []api.Line{{Change: 1}} }, api.ErrActEntry},
			{name + " with settings", func(e *api.Entry) { e.Sets = []api.Set{{Version: 1}} }, api.ErrActEntry},
		}
		if e.Act.Kind != api.ActAsk {
			list = append(list, changedEntry{name + " with an N", func(e *api.Entry) { e.N = 1 }, api.ErrActEntry})
			for outcome := -1; outcome <= 6; outcome++ {
				want := api.ErrActEntry
				if outcome == api.Done || outcome == api.Rejected {
					want = api.OK
				}
				list = append(list, changedEntry{name + " with an outcome", func(e *api.Entry) { e.Outcome = outcome }, want})
			}
		}
		lookEntry(t, func() api.Entry { return e }, list)
	}
}
