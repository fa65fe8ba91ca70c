package act_test

import (
	"math"
	"slices"
	"testing"

	"till/act"
	"till/api"
)

func write(lines ...api.Line) api.Act {
	return api.Act{Head: api.Head{Till: 1, Number: 3}, Kind: api.ActWrite, Lines: lines}
}

// loose is a write with something in all that a write may have.
func loose() api.Act {
	a := write(api.Line{Counter: 0, Change: -2}, api.Line{Counter: 1, Change: 1})
	a.Guards = []api.Guard{{Kind: api.GuardLeast, What: 1, N: -3}, {Kind: api.GuardVersion, What: 0, N: 7}}
	a.Sets = []api.Set{{Price: 0, Version: -1, N: 275}}
	a.Merge = api.Merge{Kind: api.MergeOther, Other: []api.Line{{Counter: 1, Change: 4}}}
	return a
}

func sure() api.Act {
	a := write(api.Line{Counter: 0, Change: -2})
	a.Sure = true
	return a
}

// one is an ask, a give or a pass of a right.
func one(kind, to int) api.Act {
	return api.Act{Head: api.Head{Till: 0, Number: 1}, Kind: kind, Right: api.Right{Counter: 1, Way: api.Up, N: 300}, To: to}
}

func yield(rights ...api.Right) api.Act {
	return api.Act{Head: api.Head{Till: 1, Number: 9}, Kind: api.ActYield, Gen: 2, Rights: rights}
}

func acts() map[string]api.Act {
	return map[string]api.Act{
		"write": loose(), "sure write": sure(), "ask": one(api.ActAsk, 0), "give": one(api.ActGive, 0), "pass": one(api.ActPass, 1),
		"yield":         yield(api.Right{Counter: 0, Way: api.Up, N: 5}, api.Right{Counter: 1, Way: api.Down, N: 6}),
		"empty yield":   yield(),
		"only settings": {Head: api.Head{Number: 1}, Kind: api.ActWrite, Sets: []api.Set{{Version: -1}}},
	}
}

// changed is a name of what is done to an act, and Check's answer behind it.
type changed struct {
	what  string
	to    func(a *api.Act)
	errno api.Errno
}

func look(t *testing.T, from func() api.Act, list []changed) {
	t.Helper()
	for _, x := range list {
		a := from()
		x.to(&a)
		if errno := act.Check(conf(), a); errno != x.errno {
			t.Errorf("%s: %d, want %d", x.what, errno, x.errno)
		}
	}
}

func TestP8_2WhatMayBe(t *testing.T) {
	for name, a := range acts() {
		if errno := act.Check(conf(), a); errno != api.OK {
			t.Errorf("%s: %d", name, errno)
		}
	}
}

func TestP8_2Kinds(t *testing.T) {
	for _, kind := range []int{api.ActNone, api.ActYield + 1, -1, 256 + api.ActWrite, math.MaxInt, math.MinInt} {
		for name, a := range acts() {
			a.Kind = kind
			if errno := act.Check(conf(), a); errno != api.ErrActKind {
				t.Errorf("%s with kind %d: %d", name, kind, errno)
			}
		}
	}
}

// fields are all that an act has beside its head and kind: how each is made another one, and which kinds use it.
func fields() []struct {
	name string
	fill func(a *api.Act)
	used []int
} {
	wrote, righted, yielded := []int{api.ActWrite}, []int{api.ActAsk, api.ActGive, api.ActPass}, []int{api.ActYield}
	return []struct {
		name string
		fill func(a *api.Act)
		used []int
	}{
		{"Sure", func(a *api.Act) { a.Sure = true }, wrote},
		{"Lines", func(a *api.Act) { a.Lines = make([]api.Line, 1) }, wrote},
		{"Guards", func(a *api.Act) { a.Guards = make([]api.Guard, 1) }, wrote},
		{"Sets", func(a *api.Act) { a.Sets = make([]api.Set, 1) }, wrote},
		{"Merge.Kind", func(a *api.Act) { a.Merge.Kind = -1 }, wrote},
		{"Merge.Other", func(a *api.Act) { a.Merge.Other = make([]api.Line, 1) }, wrote},
		{"Right.Counter", func(a *api.Act) { a.Right.Counter = -1 }, righted},
		{"Right.Way", func(a *api.Act) { a.Right.Way = 1 }, righted},
		{"Right.N", func(a *api.Act) { a.Right.N = math.MinInt64 }, righted},
		{"To", func(a *api.Act) { a.To = 1 }, []int{api.ActPass}},
		{"Gen", func(a *api.Act) { a.Gen = 1 }, yielded},
		{"Rights", func(a *api.Act) { a.Rights = make([]api.Right, 1) }, yielded},
	}
}

func TestP8_2FieldsThatAKindDoesNotUse(t *testing.T) {
	for name, a := range acts() {
		for _, f := range fields() {
			b := a
			f.fill(&b)
			b.Number = 0 // a later fault, if the field may be
			want := api.ErrActKind
			if slices.Contains(f.used, a.Kind) {
				want = api.ErrActHead
			}
			if errno := act.Check(conf(), b); errno != want {
				t.Errorf("%s with another %s: %d, want %d", name, f.name, errno, want)
			}
		}
	}
}

func TestP8_2EmptyListsAreNil(t *testing.T) {
	for name, a := range acts() {
		if a.Lines == nil {
			a.Lines = []api.Line{}
		}
		if a.Guards == nil {
			a.Guards = []api.Guard{}
		}
		if a.Sets == nil {
			a.Sets = []api.Set{}
		}
		if a.Merge.Other == nil {
			a.Merge.Other = []api.Line{}
		}
		if a.Rights == nil {
			a.Rights = []api.Right{}
		}
		if errno := act.Check(conf(), a); errno != api.OK {
			t.Errorf("%s: %d", name, errno)
		}
	}
}

func TestP8_2Heads(t *testing.T) {
	for name, a := range acts() {
		for _, till := range []int{-1, 2, 256, math.MaxInt, math.MinInt} {
			b := a
			b.Till = till
			if errno := act.Check(conf(), b); errno != api.ErrActHead {
				t.Errorf("%s of till %d: %d", name, till, errno)
			}
		}
		for _, number := range []uint64{0, api.MaxNumber + 1, math.MaxUint64} {
			b := a
			b.Number = number
			if errno := act.Check(conf(), b); errno != api.ErrActHead {
				t.Errorf("%s of number %d: %d", name, number, errno)
			}
		}
		a.Number = api.MaxNumber
		if errno := act.Check(conf(), a); errno != api.OK {
			t.Errorf("%s of the last number: %d", name, errno)
		}
	}
}

// badLines are lists that may stand nowhere.
func badLines() map[string][]api.Line {
	return map[string][]api.Line{
		"no change":        {{Counter: 0, Change: 0}},
		"counter 2":        {{Counter: 2, Change: 1}},
		"counter -1":       {{Counter: -1, Change: 1}},
		"counter 256":      {{Counter: 256, Change: 1}},
		"above the amount": {{Change: api.MaxAmount + 1}},
		"below the amount": {{Change: -api.MaxAmount - 1}},
		"the least change": {{Change: math.MinInt64}},
		"the last of two":  {{Change: 1}, {Change: 0}},
		"one too many":     slices.Repeat([]api.Line{{Change: 1}}, api.MaxLines+1),
	}
}

func goodLines() map[string][]api.Line {
	return map[string][]api.Line{
		"the greatest":  {{Counter: 1, Change: api.MaxAmount}},
		"the least":     {{Counter: 1, Change: -api.MaxAmount}},
		"one twice":     {{Change: 1}, {Change: 1}},
		"to and fro":    {{Change: 1}, {Change: -1}},
		"as many as go": slices.Repeat([]api.Line{{Change: 1}}, api.MaxLines),
	}
}

func TestP8_2Lines(t *testing.T) {
	for name, lines := range goodLines() {
		if errno := act.Check(conf(), write(lines...)); errno != api.OK {
			t.Errorf("%s: %d", name, errno)
		}
	}
	for name, lines := range badLines() {
		if errno := act.Check(conf(), write(lines...)); errno != api.ErrActLine {
			t.Errorf("%s: %d", name, errno)
		}
	}
	look(t, loose, []changed{
		{"no lines, a setting", func(a *api.Act) { a.Lines = nil }, api.OK},
		{"neither a line nor a setting", func(a *api.Act) { a.Lines, a.Sets = nil, nil }, api.ErrActLine},
		{"lines, no setting", func(a *api.Act) { a.Sets = nil }, api.OK},
	})
}

func TestP8_2Guards(t *testing.T) {
	with := func(g ...api.Guard) func(a *api.Act) { return func(a *api.Act) { a.Guards = g } }
	five := slices.Repeat([]api.Guard{{Kind: api.GuardIs}}, api.MaxGuards+1)
	list := []changed{
		{"as many as go", with(five[:api.MaxGuards]...), api.OK},
		{"one too many", with(five...), api.ErrActGuard},
		{"kind 0", with(api.Guard{}), api.ErrActGuard},
		{"kind 5", with(api.Guard{Kind: 5}), api.ErrActGuard},
		{"kind -1", with(api.Guard{Kind: -1}), api.ErrActGuard},
		{"the last of two", with(api.Guard{Kind: 1}, api.Guard{Kind: 1, What: 2}), api.ErrActGuard},
		{"a version of the price", with(api.Guard{Kind: api.GuardVersion, N: api.MaxNumber}), api.OK},
		{"version 0", with(api.Guard{Kind: api.GuardVersion}), api.OK},
		{"no such price", with(api.Guard{Kind: api.GuardVersion, What: 1}), api.ErrActGuard},
		{"price -1", with(api.Guard{Kind: api.GuardVersion, What: -1}), api.ErrActGuard},
		{"version -1", with(api.Guard{Kind: api.GuardVersion, N: -1}), api.ErrActGuard},
		{"a version that is more", with(api.Guard{Kind: api.GuardVersion, N: api.MaxNumber + 1}), api.ErrActGuard},
	}
	for _, kind := range []int{api.GuardLeast, api.GuardMost, api.GuardIs} {
		list = append(list, []changed{
			{"the greatest", with(api.Guard{Kind: kind, What: 1, N: api.MaxBound}), api.OK},
			{"the least", with(api.Guard{Kind: kind, What: 1, N: -api.MaxBound}), api.OK},
			{"no such counter", with(api.Guard{Kind: kind, What: 2}), api.ErrActGuard},
			{"counter -1", with(api.Guard{Kind: kind, What: -1}), api.ErrActGuard},
			{"too much", with(api.Guard{Kind: kind, N: api.MaxBound + 1}), api.ErrActGuard},
			{"too little", with(api.Guard{Kind: kind, N: -api.MaxBound - 1}), api.ErrActGuard},
			{"the least number", with(api.Guard{Kind: kind, N: math.MinInt64}), api.ErrActGuard},
		}...)
	}
	look(t, loose, list)
}

func TestP8_2Settings(t *testing.T) {
	c := conf()
	for _, name := range []string{"b", "c", "d", "e"} {
		c.Prices = append(c.Prices, api.Price{Name: name})
	}
	set := func(price, version int, n int64) api.Set { return api.Set{Price: price, Version: version, N: n} }
	row := []api.Set{set(4, -1, 0), set(0, -1, 1), set(2, -1, 2), set(1, -1, api.MaxAmount)}
	for _, x := range []struct {
		what  string
		merge int
		sets  []api.Set
		errno api.Errno
	}{
		{"as many as go", 0, row, api.OK},
		{"one too many", 0, append(slices.Clone(row), set(3, -1, 0)), api.ErrActSet},
		{"price 5", 0, []api.Set{set(5, -1, 0)}, api.ErrActSet},
		{"price -1", 0, []api.Set{set(-1, -1, 0)}, api.ErrActSet},
		{"a price twice", 0, []api.Set{set(1, -1, 0), set(1, -1, 9)}, api.ErrActSet},
		{"a price twice, apart", 0, []api.Set{set(1, -1, 0), set(2, -1, 0), set(1, -1, 0)}, api.ErrActSet},
		{"below 0", 0, []api.Set{set(0, -1, -1)}, api.ErrActSet},
		{"too much", 0, []api.Set{set(0, -1, api.MaxAmount+1)}, api.ErrActSet},
		{"a version without a clamp", 0, []api.Set{set(0, 0, 0)}, api.ErrActSet},
		{"a version, forced", api.MergeForce, []api.Set{set(0, 3, 0)}, api.ErrActSet},
		{"a version, else other", api.MergeOther, []api.Set{set(0, 3, 0)}, api.ErrActSet},
		{"no version, forced", api.MergeForce, []api.Set{set(0, -1, 0)}, api.OK},
		{"version 0, clamped", api.MergeClamp, []api.Set{set(0, 0, 0)}, api.OK},
		{"the last version, clamped", api.MergeClamp, []api.Set{set(0, api.MaxNumber, 0)}, api.OK},
		{"no version, clamped", api.MergeClamp, []api.Set{set(0, -1, 0), set(1, 4, 0)}, api.OK},
		{"a version too far", api.MergeClamp, []api.Set{set(0, api.MaxNumber+1, 0)}, api.ErrActSet},
		{"version -2", api.MergeClamp, []api.Set{set(0, -2, 0)}, api.ErrActSet},
		{"version -2, unclamped", 0, []api.Set{set(0, -2, 0)}, api.ErrActSet},
		{"the last of two", api.MergeClamp, []api.Set{set(0, -1, 0), set(1, -2, 0)}, api.ErrActSet},
	} {
		a := write()
		a.Sets, a.Merge.Kind = x.sets, x.merge
		if errno := act.Check(c, a); errno != x.errno {
			t.Errorf("%s: %d, want %d", x.what, errno, x.errno)
		}
	}
	c.Prices = nil
	a := write()
	a.Sets = []api.Set{set(0, -1, 0)}
	if errno := act.Check(c, a); errno != api.ErrActSet {
		t.Errorf("a setting where there is no price: %d", errno)
	}
}

func TestP8_2Merges(t *testing.T) {
	other := func(lines []api.Line) func(a *api.Act) {
		return func(a *api.Act) { a.Merge = api.Merge{Kind: api.MergeOther, Other: lines} }
	}
	var list []changed
	for name, lines := range badLines() {
		list = append(list, changed{"other: " + name, other(lines), api.ErrActMerge})
	}
	for name, lines := range goodLines() {
		list = append(list, changed{"other: " + name, other(lines), api.OK})
	}
	list = append(list, changed{"other: none", other(nil), api.ErrActMerge})
	for _, kind := range []int{api.MergeNone, api.MergeClamp, api.MergeForce} {
		list = append(list, changed{"no other", func(a *api.Act) { a.Merge = api.Merge{Kind: kind} }, api.OK})
		list = append(list, changed{"other of another kind", func(a *api.Act) { a.Merge.Kind = kind }, api.ErrActMerge})
	}
	for _, kind := range []int{-1, 4, 256, math.MaxInt, math.MinInt} {
		list = append(list, changed{"no such kind", func(a *api.Act) { a.Merge = api.Merge{Kind: kind} }, api.ErrActMerge})
		list = append(list, changed{"no such kind, other", func(a *api.Act) { a.Merge.Kind = kind }, api.ErrActMerge})
	}
	look(t, loose, list)
	look(t, sure, []changed{
		{"sure", func(a *api.Act) {}, api.OK},
		{"a guard", func(a *api.Act) { a.Guards = []api.Guard{{Kind: 1}} }, api.ErrActMerge},
		{"a setting", func(a *api.Act) { a.Sets = []api.Set{{Version: -1}} }, api.ErrActMerge},
		{"a setting alone", func(a *api.Act) { a.Lines, a.Sets = nil, []api.Set{{Version: -1}} }, api.ErrActMerge},
		{"clamp", func(a *api.Act) { a.Merge.Kind = api.MergeClamp }, api.ErrActMerge},
		{"force", func(a *api.Act) { a.Merge.Kind = api.MergeForce }, api.ErrActMerge},
		{"other", func(a *api.Act) { a.Merge = api.Merge{Kind: api.MergeOther, Other: a.Lines} }, api.ErrActMerge},
		{"other lines alone", func(a *api.Act) { a.Merge.Other = a.Lines }, api.ErrActMerge},
	})
}

func TestP8_2SingleRights(t *testing.T) {
	right := func(counter, way int, n int64) func(a *api.Act) {
		return func(a *api.Act) { a.Right = api.Right{Counter: counter, Way: way, N: n} }
	}
	for _, from := range []func() api.Act{
		func() api.Act { return one(api.ActAsk, 0) }, func() api.Act { return one(api.ActGive, 0) }, func() api.Act { return one(api.ActPass, 1) },
	} {
		look(t, from, []changed{
			{"the least", right(0, api.Down, 1), api.OK},
			{"the greatest", right(1, api.Up, api.MaxAmount), api.OK},
			{"none", right(0, 0, 0), api.ErrActRight},
			{"below 0", right(0, 0, -1), api.ErrActRight},
			{"too many", right(0, 0, api.MaxAmount+1), api.ErrActRight},
			{"counter 2", right(2, 0, 1), api.ErrActRight},
			{"counter -1", right(-1, 0, 1), api.ErrActRight},
			{"way 2", right(0, 2, 1), api.ErrActRight},
			{"way -1", right(0, -1, 1), api.ErrActRight},
			{"nothing", func(a *api.Act) { a.Right = api.Right{} }, api.ErrActRight},
		})
	}
	look(t, func() api.Act { return one(api.ActPass, 1) }, []changed{
		{"to itself", func(a *api.Act) { a.To = 0 }, api.ErrActRight},
		{"to itself, 1", func(a *api.Act) { a.Till = 1 }, api.ErrActRight},
		{"to till 2", func(a *api.Act) { a.To = 2 }, api.ErrActRight},
		{"to till -1", func(a *api.Act) { a.To = -1 }, api.ErrActRight},
		{"from 1 to 0", func(a *api.Act) { a.Till, a.To = 1, 0 }, api.OK},
	})
}

func TestP8_2Yields(t *testing.T) {
	rights := func(l ...api.Right) func(a *api.Act) { return func(a *api.Act) { a.Rights = l } }
	r := func(counter, way int, n int64) api.Right { return api.Right{Counter: counter, Way: way, N: n} }
	look(t, func() api.Act { return yield() }, []changed{
		{"none", func(a *api.Act) {}, api.OK},
		{"all", rights(r(0, 0, 1), r(0, 1, api.MaxHeld), r(1, 0, 2), r(1, 1, 3)), api.OK},
		{"counters turned", rights(r(1, 0, 2), r(0, 1, 1)), api.ErrActRight},
		{"ways turned", rights(r(0, 1, 2), r(0, 0, 1)), api.ErrActRight},
		{"one twice", rights(r(0, 1, 2), r(0, 1, 2)), api.ErrActRight},
		{"the last turned", rights(r(0, 0, 1), r(1, 0, 1), r(0, 1, 1)), api.ErrActRight},
		{"an N of 0", rights(r(0, 0, 1), r(1, 0, 0)), api.ErrActRight},
		{"an N below 0", rights(r(0, 0, -1)), api.ErrActRight},
		{"too many", rights(r(0, 0, api.MaxHeld+1)), api.ErrActRight},
		{"counter 2", rights(r(2, 0, 1)), api.ErrActRight},
		{"counter -1", rights(r(-1, 0, 1), r(0, 0, 1)), api.ErrActRight},
		{"way 2", rights(r(0, 2, 1)), api.ErrActRight},
		{"way -1", rights(r(0, -1, 1)), api.ErrActRight},
		{"generation 0", func(a *api.Act) { a.Gen = 0 }, api.ErrActRight},
		{"the last generation", func(a *api.Act) { a.Gen = api.MaxNumber }, api.OK},
		{"a generation too far", func(a *api.Act) { a.Gen = api.MaxNumber + 1 }, api.ErrActRight},
	})
	a := yield()
	for counter := range api.MaxCounters {
		a.Rights = append(a.Rights, r(counter, api.Down, 1), r(counter, api.Up, 1))
	}
	if errno := act.Check(greatest(), a); errno != api.OK {
		t.Errorf("a yield of everything: %d", errno)
	}
}

// Of two faults the one that the list names first is told, whichever they are.
func TestP8_2TheFirstFault(t *testing.T) {
	faults := []changed{
		{"an unused field", func(a *api.Act) { a.To = 1 }, api.ErrActKind},
		{"another unused field", func(a *api.Act) { a.Rights = make([]api.Right, 1) }, api.ErrActKind},
		{"the till", func(a *api.Act) { a.Till = 2 }, api.ErrActHead},
		{"the number", func(a *api.Act) { a.Number = 0 }, api.ErrActHead},
		{"a line", func(a *api.Act) { a.Lines[1].Change = 0 }, api.ErrActLine},
		{"too many lines", func(a *api.Act) { a.Lines = append(a.Lines, make([]api.Line, 8)...) }, api.ErrActLine},
		{"a guard", func(a *api.Act) { a.Guards[1].What = 1 }, api.ErrActGuard},
		{"a setting", func(a *api.Act) { a.Sets[0].Version = 3 }, api.ErrActSet},
		{"another setting", func(a *api.Act) { a.Sets[0].N = -1 }, api.ErrActSet},
		{"the merge's other", func(a *api.Act) { a.Merge.Other[0].Counter = 2 }, api.ErrActMerge},
		{"sure with guards", func(a *api.Act) { a.Sure = true }, api.ErrActMerge},
	}
	for i, x := range faults {
		for _, y := range faults[i:] {
			for _, pair := range [][2]changed{{x, y}, {y, x}} {
				a := loose()
				pair[0].to(&a)
				pair[1].to(&a)
				if errno := act.Check(conf(), a); errno != x.errno {
					t.Errorf("%s and %s: %d, want %d", pair[0].what, pair[1].what, errno, x.errno)
				}
			}
		}
	}
	for name, a := range acts() {
		if a.Kind != api.ActWrite {
			a.Right.N, a.Gen, a.Till = 0, 0, 5
			if a.Kind == api.ActYield {
				a.Right = api.Right{}
			}
			if errno := act.Check(conf(), a); errno != api.ErrActHead {
				t.Errorf("%s, till and right: %d", name, errno)
			}
		}
	}
}
