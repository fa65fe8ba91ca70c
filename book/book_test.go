package book_test

import (
	"fmt"
	"math"
	"testing"

	"till/act"
	"till/api"
	"till/book"
	"till/rule"
)

// tea is the configuration of the chapter's examples.
func tea() api.Config {
	return api.Config{
		Tills: 2, Counters: []api.Counter{{Name: "tea", Hi: 10, Start: 4}}, Prices: []api.Price{{Name: "tea", Start: 250}},
		Lease: 20, Watch: 16, Beat: 8, Window: 4, Cap: 8, Flight: 100,
	}
}

// store has three tills, two counters, one of them with bounds on both sides of 0, and two prices.
func store() api.Config {
	c := tea()
	c.Tills = 3
	c.Counters = []api.Counter{{Name: "tea", Lo: 2, Hi: 20, Start: 9}, {Name: "credit", Lo: -5, Hi: 5, Start: -1}}
	c.Prices = []api.Price{{Name: "tea", Start: 250}, {Name: "cup"}}
	return c
}

// busy is a right state of store: till 1 owes a yield, and till 2 holds nothing.
func busy() api.State {
	return api.State{
		Position: 40,
		Pools: []api.Pool{
			{Value: 12, Free: [2]int64{3, 6}, Held: [][2]int64{{5, 2}, {2, 0}, {0, 0}}},
			{Value: 1, Free: [2]int64{1, 3}, Held: [][2]int64{{1, 0}, {4, 1}, {0, 0}}},
		},
		Prices: []api.Priced{{Price: 300, Version: 2}, {Price: 10, Version: api.MaxNumber}},
		Last:   []uint64{7, 8, 0},
		Gen:    []uint64{1, 3, 0},
		Owed:   []bool{false, true, false},
	}
}

func head(till int, number uint64) api.Head { return api.Head{Till: till, Number: number} }

func write(till int, number uint64, lines ...api.Line) api.Act {
	return api.Act{Head: head(till, number), Kind: api.ActWrite, Lines: lines}
}

func sure(till int, number uint64, lines ...api.Line) api.Act {
	a := write(till, number, lines...)
	a.Sure = true
	return a
}

func right(kind, till int, number uint64, counter, way int, n int64) api.Act {
	return api.Act{Head: head(till, number), Kind: kind, Right: api.Right{Counter: counter, Way: way, N: n}}
}

func pass(till int, number uint64, to, counter, way int, n int64) api.Act {
	a := right(api.ActPass, till, number, counter, way, n)
	a.To = to
	return a
}

func yield(till int, number, gen uint64, rights ...api.Right) api.Act {
	return api.Act{Head: head(till, number), Kind: api.ActYield, Gen: gen, Rights: rights}
}

func line(counter int, change int64) api.Line { return api.Line{Counter: counter, Change: change} }

// text tells a value without what is not seen of it: a nil list reads as an empty one.
func text(x any) string { return fmt.Sprintf("%+v", x) }

func same(t *testing.T, what string, got, want any) {
	t.Helper()
	if text(got) != text(want) {
		t.Errorf("%s:\n got %s\nwant %s", what, text(got), text(want))
	}
}

func mustFold(t *testing.T, c api.Config, s api.State, e api.Entry) api.State {
	t.Helper()
	u, errno := book.Fold(c, s, e)
	if errno != api.OK {
		t.Fatalf("Fold(%+v): %d", e, errno)
	}
	if !book.Right(c, u) {
		t.Fatalf("Fold(%+v): %+v is not right", e, u)
	}
	return u
}

// fold folds the entry that an act makes, which must be as told.
func fold(t *testing.T, c api.Config, s api.State, a api.Act, outcome int) api.State {
	t.Helper()
	e := book.Next(c, s, a)
	if e.Outcome != outcome {
		t.Fatalf("Next(%+v): %+v, want outcome %d", a, e, outcome)
	}
	return mustFold(t, c, s, e)
}

func refuse(t *testing.T, c api.Config, s api.State, e api.Entry, want api.Errno) {
	t.Helper()
	u, errno := book.Fold(c, s, e)
	if errno != want || text(u) != text(api.State{}) {
		t.Errorf("Fold(%+v): %+v, %d, want %d", e, u, errno, want)
	}
}

func TestExamples(t *testing.T) {
	c := tea()
	s := book.First(c)
	s = fold(t, c, s, right(api.ActAsk, 0, 1, 0, api.Down, 3), api.Granted)
	same(t, "an ask", s.Pools[0], api.Pool{Value: 4, Free: [2]int64{1, 6}, Held: [][2]int64{{3, 0}, {0, 0}}})
	s = fold(t, c, s, sure(0, 2, line(0, -2)), api.Applied)
	same(t, "a sure write", s.Pools[0], api.Pool{Value: 2, Free: [2]int64{1, 8}, Held: [][2]int64{{1, 0}, {0, 0}}})
	a := write(1, 1, line(0, -2))
	same(t, "a write of more than is free", book.Next(c, s, a), api.Entry{Position: 3, Act: a, Outcome: api.Rejected})
	a.Merge.Kind = api.MergeClamp
	s = fold(t, c, s, a, api.Merged)
	same(t, "a write that is cut", s.Pools[0], api.Pool{Value: 1, Free: [2]int64{0, 9}, Held: [][2]int64{{1, 0}, {0, 0}}})
	fence, ok := book.Fence(c, s, 0)
	same(t, "a fence", fence, api.Entry{Position: 4, Gen: 1})
	if !ok {
		t.Error("till 0 may not be fenced")
	}
	s = mustFold(t, c, s, fence)
	for _, till := range []int{0, 2} {
		if x, ok := book.Fence(c, s, till); ok || text(x) != text(api.Entry{}) {
			t.Errorf("Fence of till %d: %+v, %v", till, x, ok)
		}
	}
	s = fold(t, c, s, yield(0, 3, 1, api.Right{N: 1}), api.Done)
	same(t, "a yield", s, api.State{
		Position: 5, Pools: []api.Pool{{Value: 1, Free: [2]int64{1, 9}, Held: [][2]int64{{0, 0}, {0, 0}}}}, Prices: []api.Priced{{Price: 250}},
		Last: []uint64{3, 1}, Gen: []uint64{1, 0}, Owed: []bool{false, false},
	})
	if len(book.Held(s, 0)) > 0 || book.Any(s, 0) {
		t.Errorf("till 0 holds %+v", book.Held(s, 0))
	}
	e := book.Next(c, s, right(api.ActAsk, 0, 4, 0, api.Down, 1))
	e.Position++
	refuse(t, c, s, e, api.ErrBookOrder)
	e.Position, e.N = e.Position-1, 0
	refuse(t, c, s, e, api.ErrBookOutcome)
	refuse(t, c, s, book.Next(c, s, yield(0, 3, 1, api.Right{N: 1})), api.ErrBookAct)
	refuse(t, c, s, api.Entry{Position: 6, Gen: 3}, api.ErrBookFence)
}

func TestP10_1First(t *testing.T) {
	same(t, "First", book.First(store()), api.State{
		Pools: []api.Pool{
			{Value: 9, Free: [2]int64{7, 11}, Held: make([][2]int64, 3)},
			{Value: -1, Free: [2]int64{4, 6}, Held: make([][2]int64, 3)},
		},
		Prices: []api.Priced{{Price: 250}, {}},
		Last:   make([]uint64, 3), Gen: make([]uint64, 3), Owed: make([]bool, 3),
	})
	c := tea()
	c.Tills, c.Prices = api.MaxTills, nil
	c.Counters = []api.Counter{{Name: "all", Lo: -api.MaxBound, Hi: api.MaxBound, Start: api.MaxBound}, {Name: "none", Lo: 3, Hi: 3, Start: 3}}
	same(t, "First at the limits", book.First(c), api.State{
		Pools: []api.Pool{{Value: 1 << 53, Free: [2]int64{1 << 54, 0}, Held: make([][2]int64, 8)}, {Value: 3, Held: make([][2]int64, 8)}},
		Last:  make([]uint64, 8), Gen: make([]uint64, 8), Owed: make([]bool, 8),
	})
}

// change is a state in which one thing is another.
type change struct {
	what string
	make func(s *api.State)
}

func lookRight(t *testing.T, want bool, changes []change) {
	t.Helper()
	for _, x := range changes {
		s := busy()
		x.make(&s)
		if got := book.Right(store(), s); got != want {
			t.Errorf("%s: %v of %+v", x.what, got, s)
		}
	}
}

func TestP10_2RightEdges(t *testing.T) {
	lookRight(t, true, []change{
		{"as it is", func(s *api.State) {}},
		{"position 0", func(s *api.State) { s.Position = 0 }},
		{"the last position", func(s *api.State) { s.Position = api.MaxNumber }},
		{"the last act and generation", func(s *api.State) { s.Last[0], s.Gen[0], s.Gen[1] = api.MaxNumber, api.MaxNumber, api.MaxNumber }},
		{"generation 1 owes", func(s *api.State) { s.Owed[0] = true }},
		{"price 0, version 0", func(s *api.State) { s.Prices[0] = api.Priced{} }},
		{"the greatest price", func(s *api.State) { s.Prices[0].Price = api.MaxAmount }},
		{"a value at Lo", func(s *api.State) { s.Pools[0] = api.Pool{Value: 2, Free: [2]int64{0, 18}, Held: make([][2]int64, 3)} }},
		{"a value at Hi", func(s *api.State) { s.Pools[0] = api.Pool{Value: 20, Free: [2]int64{18, 0}, Held: make([][2]int64, 3)} }},
		{"all held", func(s *api.State) { s.Pools[1].Free[0], s.Pools[1].Held[2][0] = 0, 1 }},
	})
}

func TestP10_2Lists(t *testing.T) {
	lookRight(t, false, []change{
		{"no pools", func(s *api.State) { s.Pools = nil }},
		{"a pool less", func(s *api.State) { s.Pools = s.Pools[:1] }},
		{"a pool more", func(s *api.State) { s.Pools = append(s.Pools, api.Pool{Held: make([][2]int64, 3)}) }},
		{"a till's rights less", func(s *api.State) { s.Pools[0].Held = s.Pools[0].Held[:2] }},
		{"a till's rights more", func(s *api.State) { s.Pools[1].Held = append(s.Pools[1].Held, [2]int64{}) }},
		{"a price less", func(s *api.State) { s.Prices = s.Prices[:1] }},
		{"a price more", func(s *api.State) { s.Prices = append(s.Prices, api.Priced{}) }},
		{"a last act less", func(s *api.State) { s.Last = s.Last[:2] }},
		{"a last act more", func(s *api.State) { s.Last = append(s.Last, 0) }},
		{"a generation less", func(s *api.State) { s.Gen = s.Gen[:2] }},
		{"a generation more", func(s *api.State) { s.Gen = append(s.Gen, 0) }},
		{"an owed less", func(s *api.State) { s.Owed = s.Owed[:2] }},
		{"an owed more", func(s *api.State) { s.Owed = append(s.Owed, false) }},
		{"generations and oweds less", func(s *api.State) { s.Gen, s.Owed = s.Gen[:2], s.Owed[:2] }},
		{"nothing at all", func(s *api.State) { *s = api.State{} }},
	})
}

func TestP10_2Counters(t *testing.T) {
	lookRight(t, false, []change{
		{"a value below Lo", func(s *api.State) { s.Pools[0] = api.Pool{Value: 1, Free: [2]int64{-1, 19}, Held: make([][2]int64, 3)} }},
		{"below Lo, without a right", func(s *api.State) { s.Pools[0] = api.Pool{Value: 1, Free: [2]int64{0, 19}, Held: make([][2]int64, 3)} }},
		{"a value above Hi", func(s *api.State) {
			s.Pools[0] = api.Pool{Value: 21, Free: [2]int64{19, -1}, Held: make([][2]int64, 3)}
		}},
		{"above Hi, without a right", func(s *api.State) { s.Pools[0] = api.Pool{Value: 21, Free: [2]int64{19, 0}, Held: make([][2]int64, 3)} }},
		{"another value", func(s *api.State) { s.Pools[1].Value++ }},
		{"free ones below 0", func(s *api.State) { s.Pools[0].Free[0], s.Pools[0].Held[0][0] = -1, 9 }},
		{"free ones up below 0", func(s *api.State) { s.Pools[0].Free[1], s.Pools[0].Held[0][1] = -1, 9 }},
		{"held ones below 0", func(s *api.State) { s.Pools[0].Free[0], s.Pools[0].Held[2][0] = 4, -1 }},
		{"held ones up below 0", func(s *api.State) { s.Pools[1].Free[1], s.Pools[1].Held[2][1] = 4, -1 }},
		{"a free one more", func(s *api.State) { s.Pools[0].Free[0]++ }},
		{"a free one up less", func(s *api.State) { s.Pools[1].Free[1]-- }},
		{"a held one more", func(s *api.State) { s.Pools[1].Held[2][0]++ }},
		{"a held one up less", func(s *api.State) { s.Pools[1].Held[1][1]-- }},
		{"one of the other way", func(s *api.State) { s.Pools[0].Free[0]--; s.Pools[0].Free[1]++ }},
		{"a sum that leaves the 64 bits", func(s *api.State) {
			s.Pools[0] = api.Pool{Value: 2, Free: [2]int64{math.MaxInt64, 18}, Held: [][2]int64{{1, 0}, {0, 0}, {0, 0}}}
		}},
		{"a sum that comes round to the slack", func(s *api.State) {
			s.Pools[0].Free[0] = math.MaxInt64
			s.Pools[0].Held = [][2]int64{{math.MaxInt64, 2}, {12, 0}, {0, 0}}
		}},
	})
}

// A counter's slack is at most MaxHeld, so that a bound on what is held can be told apart only where the bounds are wider than they may be.
func TestP10_2MostHeld(t *testing.T) {
	c := tea()
	c.Counters[0] = api.Counter{Name: "tea", Lo: -api.MaxBound, Hi: api.MaxBound}
	s := book.First(c)
	s.Pools[0] = api.Pool{Value: api.MaxBound, Held: [][2]int64{{api.MaxHeld, 0}, {0, 0}}}
	if !book.Right(c, s) {
		t.Errorf("one that holds MaxHeld: %+v", s)
	}
	c.Counters[0].Lo--
	s.Pools[0].Held[0][0]++
	if book.Right(c, s) {
		t.Errorf("one that holds more than MaxHeld: %+v", s)
	}
	s.Pools[0].Held[0][0]--
	s.Pools[0].Free[0]++
	if !book.Right(c, s) {
		t.Errorf("one that holds MaxHeld, and one is free: %+v", s)
	}
}

func TestP10_2PricesAndTills(t *testing.T) {
	lookRight(t, false, []change{
		{"a price below 0", func(s *api.State) { s.Prices[1].Price = -1 }},
		{"a price above MaxAmount", func(s *api.State) { s.Prices[1].Price = api.MaxAmount + 1 }},
		{"a version below 0", func(s *api.State) { s.Prices[0].Version = -1 }},
		{"a version above MaxNumber", func(s *api.State) { s.Prices[1].Version = api.MaxNumber + 1 }},
		{"a last act above MaxNumber", func(s *api.State) { s.Last[2] = api.MaxNumber + 1 }},
		{"a last act far above", func(s *api.State) { s.Last[0] = math.MaxUint64 }},
		{"a generation above MaxNumber", func(s *api.State) { s.Gen[2] = api.MaxNumber + 1 }},
		{"a generation far above", func(s *api.State) { s.Gen[0] = math.MaxUint64 }},
		{"one that owes in generation 0", func(s *api.State) { s.Owed[2] = true }},
		{"a position above MaxNumber", func(s *api.State) { s.Position = api.MaxNumber + 1 }},
		{"a position far above", func(s *api.State) { s.Position = math.MaxUint64 }},
	})
}

// everyAct is an act of each row of DOC.md's table, all of till 0 but yields, each its till's next one.
func everyAct() []api.Act {
	guard := []api.Guard{{Kind: api.GuardIs, What: 0, N: 11}}
	set := []api.Set{{Price: 0, Version: -1, N: 275}}
	full := []api.Set{{Price: 0, Version: -1, N: 275}, {Price: 1, Version: -1, N: 5}}
	acts := []api.Act{
		sure(0, 8, line(0, -2), line(1, -1), line(0, -3)),
		sure(0, 8, line(0, 2)),
		sure(0, 8, line(0, -6)),
		write(0, 8, line(0, -3), line(0, 6), line(1, 1)),
		{Head: head(0, 8), Kind: api.ActWrite, Sets: set},
		{Head: head(0, 8), Kind: api.ActWrite, Lines: []api.Line{line(1, -1)}, Sets: full},
		{Head: head(0, 8), Kind: api.ActWrite, Lines: []api.Line{line(0, -9), line(0, 12), line(1, 4)}, Guards: guard, Sets: full, Merge: api.Merge{Kind: api.MergeClamp}},
		{Head: head(0, 8), Kind: api.ActWrite, Lines: []api.Line{line(0, -4)}, Merge: api.Merge{Kind: api.MergeOther, Other: []api.Line{line(0, -3), line(1, 3)}}},
		{Head: head(0, 8), Kind: api.ActWrite, Lines: []api.Line{line(0, -3)}, Guards: guard, Sets: set, Merge: api.Merge{Kind: api.MergeForce}},
		{Head: head(0, 8), Kind: api.ActWrite, Lines: []api.Line{line(0, -4)}, Guards: guard, Sets: set, Merge: api.Merge{Kind: api.MergeForce}},
		right(api.ActAsk, 0, 8, 0, api.Up, 4),
		right(api.ActAsk, 0, 8, 1, api.Down, 4),
		right(api.ActGive, 0, 8, 0, api.Down, 5),
		right(api.ActGive, 0, 8, 1, api.Down, 2),
		pass(0, 8, 1, 0, api.Down, 5),
		pass(0, 8, 2, 1, api.Up, 1),
		yield(1, 9, 3, api.Right{N: 2}, api.Right{Counter: 1, N: 3}, api.Right{Counter: 1, Way: api.Up, N: 1}),
		yield(1, 9, 3),
		yield(1, 9, 2),
		yield(0, 8, 1),
	}
	return acts
}

func TestP10_3Next(t *testing.T) {
	c, s := store(), busy()
	for _, a := range everyAct() {
		if errno := act.Check(c, a); errno != api.OK {
			t.Fatalf("Check(%+v): %d", a, errno)
		}
		want := api.Entry{Position: 41, Act: a}
		want.Outcome, want.Made, want.Sets, want.N = rule.Judge(s, a)
		same(t, "Next", book.Next(c, s, a), want)
		a.Number += 5 // whether it is the next one is not looked at
		want.Act.Number += 5
		same(t, "Next of a later act", book.Next(c, s, a), want)
	}
	s.Position = api.MaxNumber
	if e := book.Next(c, s, everyAct()[0]); e.Position != api.MaxNumber+1 {
		t.Errorf("Next behind the last position: %+v", e)
	}
}

func TestP10_4Fence(t *testing.T) {
	c, s := store(), busy()
	s.Gen[2] = api.MaxNumber - 1
	for _, x := range []struct {
		till int
		gen  uint64
	}{{0, 2}, {2, api.MaxNumber}} {
		e, ok := book.Fence(c, s, x.till)
		same(t, "Fence", e, api.Entry{Position: 41, Fence: x.till, Gen: x.gen})
		if !ok {
			t.Errorf("till %d may not be fenced", x.till)
		}
	}
	s.Gen[2] = api.MaxNumber
	for _, till := range []int{1, 2, 3, -1, math.MaxInt, math.MinInt} {
		if e, ok := book.Fence(c, s, till); ok || text(e) != text(api.Entry{}) {
			t.Errorf("Fence of till %d: %+v, %v", till, e, ok)
		}
	}
}

// A till is fenced whatever it holds.
func TestP10_4FenceOfNothing(t *testing.T) {
	c, s := store(), busy()
	e, ok := book.Fence(c, s, 2)
	if !ok || e.Gen != 1 || e.Fence != 2 {
		t.Fatalf("Fence: %+v, %v", e, ok)
	}
	want := busy()
	want.Position, want.Gen[2], want.Owed[2] = 41, 1, true
	same(t, "a fence folded", mustFold(t, c, s, e), want)
}

func TestP10_5Folded(t *testing.T) {
	// Each change is what the act of that place in everyAct makes of busy.
	made := []func(s *api.State){
		func(s *api.State) {
			s.Pools[0].Value, s.Pools[0].Held[0][0], s.Pools[0].Free[1] = 7, 0, 11
			s.Pools[1].Value, s.Pools[1].Held[0][0], s.Pools[1].Free[1] = 0, 0, 4
		},
		func(s *api.State) { s.Pools[0].Value, s.Pools[0].Held[0][1], s.Pools[0].Free[0] = 14, 0, 5 },
		func(s *api.State) {},
		func(s *api.State) {
			s.Pools[0].Value, s.Pools[0].Free = 15, [2]int64{6, 3}
			s.Pools[1].Value, s.Pools[1].Free = 2, [2]int64{2, 2}
		},
		func(s *api.State) { s.Prices[0] = api.Priced{Price: 275, Version: 3} },
		func(s *api.State) {},
		func(s *api.State) {
			s.Pools[0].Value, s.Pools[0].Free = 18, [2]int64{9, 0}
			s.Pools[1].Value, s.Pools[1].Free = 4, [2]int64{4, 0}
			s.Prices[0] = api.Priced{Price: 275, Version: 3}
		},
		func(s *api.State) {
			s.Pools[0].Value, s.Pools[0].Free = 9, [2]int64{0, 9}
			s.Pools[1].Value, s.Pools[1].Free = 4, [2]int64{4, 0}
		},
		func(s *api.State) {
			s.Pools[0].Value, s.Pools[0].Free = 9, [2]int64{0, 9}
			s.Prices[0] = api.Priced{Price: 275, Version: 3}
		},
		func(s *api.State) {},
		func(s *api.State) { s.Pools[0].Free[1], s.Pools[0].Held[0][1] = 2, 6 },
		func(s *api.State) { s.Pools[1].Free[0], s.Pools[1].Held[0][0] = 0, 2 },
		func(s *api.State) { s.Pools[0].Free[0], s.Pools[0].Held[0][0] = 8, 0 },
		func(s *api.State) {},
		func(s *api.State) { s.Pools[0].Held[0][0], s.Pools[0].Held[1][0] = 0, 7 },
		func(s *api.State) {},
		func(s *api.State) {
			s.Pools[0].Free[0], s.Pools[0].Held[1][0] = 5, 0
			s.Pools[1].Free, s.Pools[1].Held[1] = [2]int64{4, 4}, [2]int64{1, 0}
			s.Owed[1] = false
		},
		func(s *api.State) { s.Owed[1] = false },
		func(s *api.State) {},
		func(s *api.State) {},
	}
	outcomes := map[int]int{}
	for i, a := range everyAct() {
		e := book.Next(store(), busy(), a)
		outcomes[e.Outcome]++
		want := busy()
		want.Position, want.Last[a.Till] = 41, a.Number
		made[i](&want)
		same(t, fmt.Sprintf("act %d folded", i), mustFold(t, store(), busy(), e), want)
	}
	same(t, "outcomes", outcomes, map[int]int{api.Applied: 4, api.Merged: 3, api.Rejected: 7, api.Granted: 2, api.Done: 4})
}

func TestP10_5Order(t *testing.T) {
	c, s := store(), busy()
	for _, e := range []api.Entry{book.Next(c, s, everyAct()[0]), {Position: 41, Gen: 2}, {Position: 41}, {Position: 41, Act: api.Act{Kind: 9}}} {
		for _, position := range []uint64{0, 1, 39, 40, 42, math.MaxUint64} {
			e.Position = position
			refuse(t, c, s, e, api.ErrBookOrder)
		}
	}
	for _, s.Position = range []uint64{api.MaxNumber - 1, api.MaxNumber} {
		want := api.OK
		if s.Position == api.MaxNumber {
			want = api.ErrBookOrder
		}
		fence, _ := book.Fence(c, s, 0)
		for _, e := range []api.Entry{book.Next(c, s, everyAct()[0]), fence} {
			if _, errno := book.Fold(c, s, e); errno != want {
				t.Errorf("Fold behind position %d: %d, want %d", s.Position, errno, want)
			}
		}
	}
}

// A fence is one in every field.
func TestP10_5Fence(t *testing.T) {
	c, s := store(), busy()
	fence, _ := book.Fence(c, s, 0)
	mustFold(t, c, s, fence)
	for i, spoil := range []func(e *api.Entry){
		func(e *api.Entry) { e.Gen = 1 },
		func(e *api.Entry) { e.Gen = 3 },
		func(e *api.Entry) { e.Gen = 0 },
		func(e *api.Entry) { e.Fence, e.Gen = 1, 4 }, // it owes a yield
		func(e *api.Entry) { e.Fence = 2 },           // its generation is another one
		func(e *api.Entry) { e.Fence, e.Gen = 3, 1 },
		func(e *api.Entry) { e.Fence, e.Gen = -1, 1 },
		func(e *api.Entry) { e.Fence, e.Gen = math.MaxInt, 1 },
		func(e *api.Entry) { e.Outcome = api.Done },
		func(e *api.Entry) { e.Made = []api.Line{line(0, 1)} },
		func(e *api.Entry) { e.Made = []api.Line{{}} },
		func(e *api.Entry) { e.Sets = []api.Set{{}} },
		func(e *api.Entry) { e.N = 1 },
		func(e *api.Entry) { e.Act.Till = 1 },
		func(e *api.Entry) { e.Act.Number = 8 },
		func(e *api.Entry) { e.Act.Sure = true },
		func(e *api.Entry) { e.Act.Lines = []api.Line{{}} },
		func(e *api.Entry) { e.Act.Guards = []api.Guard{{}} },
		func(e *api.Entry) { e.Act.Sets = []api.Set{{}} },
		func(e *api.Entry) { e.Act.Merge.Kind = api.MergeForce },
		func(e *api.Entry) { e.Act.Merge.Other = []api.Line{{}} },
		func(e *api.Entry) { e.Act.Right.Counter = 1 },
		func(e *api.Entry) { e.Act.Right.Way = 1 },
		func(e *api.Entry) { e.Act.Right.N = 1 },
		func(e *api.Entry) { e.Act.To = 1 },
		func(e *api.Entry) { e.Act.Gen = 1 },
		func(e *api.Entry) { e.Act.Rights = []api.Right{{}} },
	} {
		e := fence
		spoil(&e)
		if _, errno := book.Fold(c, s, e); errno != api.ErrBookFence {
			t.Errorf("%d: Fold(%+v): %d", i, e, errno)
		}
	}
	s.Gen[0] = api.MaxNumber
	refuse(t, c, s, api.Entry{Position: 41, Gen: api.MaxNumber + 1}, api.ErrBookFence)
}

// An act that may not be, and one that is not the next, are refused whatever became of them.
func TestP10_5Act(t *testing.T) {
	c, s := store(), busy()
	for _, spoil := range []func(a *api.Act){
		func(a *api.Act) { a.Kind = 6 },
		func(a *api.Act) { a.Kind = -1 },
		func(a *api.Act) { a.Till = 3 },
		func(a *api.Act) { a.Till = -1 },
		func(a *api.Act) { a.Till = 1 },
		func(a *api.Act) { a.Number = 0 },
		func(a *api.Act) { a.Number = 7 },
		func(a *api.Act) { a.Number = 9 },
		func(a *api.Act) { a.Number = math.MaxUint64 },
		func(a *api.Act) { a.Lines = nil },
		func(a *api.Act) { a.Lines = []api.Line{line(2, -1)} },
		func(a *api.Act) { a.Lines = []api.Line{line(0, 0)} },
		func(a *api.Act) { a.Guards = []api.Guard{{}} },
		func(a *api.Act) { a.Sets = []api.Set{{Price: 2, Version: -1}} },
		func(a *api.Act) { a.Merge.Kind = api.MergeOther },
		func(a *api.Act) { a.Sure, a.Merge.Kind = true, api.MergeForce },
		func(a *api.Act) { a.To = 1 },
	} {
		a := write(0, 8, line(0, -1))
		spoil(&a)
		e := book.Next(c, s, a)
		refuse(t, c, s, e, api.ErrBookAct)
		e.Outcome, e.Gen = api.Granted, 5
		refuse(t, c, s, e, api.ErrBookAct)
	}
	s.Last[0] = api.MaxNumber
	refuse(t, c, s, book.Next(c, s, write(0, api.MaxNumber+1, line(0, -1))), api.ErrBookAct)
}

func TestP10_5LastNumber(t *testing.T) {
	c, s := store(), busy()
	s.Last[0] = api.MaxNumber - 1
	if u := fold(t, c, s, write(0, api.MaxNumber, line(0, -1)), api.Applied); u.Last[0] != api.MaxNumber {
		t.Errorf("Fold of the last act: %+v", u)
	}
}

// spoiled are entries that differ from e in what became of its act.
func spoiled(e api.Entry) []api.Entry {
	var out []api.Entry
	put := func(change func(x *api.Entry)) {
		x := e
		x.Made, x.Sets = append([]api.Line(nil), e.Made...), append([]api.Set(nil), e.Sets...)
		change(&x)
		if text(x) != text(e) {
			out = append(out, x)
		}
	}
	for outcome := -1; outcome <= 6; outcome++ {
		put(func(x *api.Entry) { x.Outcome = outcome })
		put(func(x *api.Entry) { x.Outcome, x.Made, x.Sets, x.N = outcome, nil, nil, 0 })
	}
	for i := range e.Made {
		put(func(x *api.Entry) { x.Made[i].Change++ })
		put(func(x *api.Entry) { x.Made[i].Counter = 1 - x.Made[i].Counter })
		put(func(x *api.Entry) { x.Made[0], x.Made[i] = x.Made[i], x.Made[0] })
		put(func(x *api.Entry) { x.Made = append(x.Made[:i], x.Made[i+1:]...) })
	}
	for i := range e.Sets {
		put(func(x *api.Entry) { x.Sets[i].N++ })
		put(func(x *api.Entry) { x.Sets[i].Version++ })
		put(func(x *api.Entry) { x.Sets[i].Price = 1 - x.Sets[i].Price })
		put(func(x *api.Entry) { x.Sets[0], x.Sets[i] = x.Sets[i], x.Sets[0] })
		put(func(x *api.Entry) { x.Sets = append(x.Sets[:i], x.Sets[i+1:]...) })
	}
	put(func(x *api.Entry) { x.Made = append(x.Made, api.Line{}) })
	put(func(x *api.Entry) { x.Made = x.Act.Lines })
	put(func(x *api.Entry) { x.Sets = append(x.Sets, api.Set{}) })
	put(func(x *api.Entry) { x.Sets = x.Act.Sets })
	put(func(x *api.Entry) { x.N++ })
	put(func(x *api.Entry) { x.N-- })
	put(func(x *api.Entry) { x.Fence = 1 })
	put(func(x *api.Entry) { x.Gen = 1 })
	return out
}

func TestP10_5Outcome(t *testing.T) {
	c, s := store(), busy()
	for _, a := range everyAct() {
		e := book.Next(c, s, a)
		for _, x := range spoiled(e) {
			refuse(t, c, s, x, api.ErrBookOutcome)
		}
	}
}

// A nil list and an empty one are the same, wherever they stand.
func TestP10_5EmptyLists(t *testing.T) {
	c, s := store(), busy()
	fence, _ := book.Fence(c, s, 0)
	entries := []api.Entry{fence}
	for _, a := range everyAct() {
		entries = append(entries, book.Next(c, s, a))
	}
	for _, e := range entries {
		want := mustFold(t, c, s, e)
		for _, x := range []*[]api.Line{&e.Made, &e.Act.Lines, &e.Act.Merge.Other} {
			if len(*x) == 0 {
				*x = []api.Line{}
			}
		}
		for _, x := range []*[]api.Set{&e.Sets, &e.Act.Sets} {
			if len(*x) == 0 {
				*x = []api.Set{}
			}
		}
		if len(e.Act.Guards) == 0 {
			e.Act.Guards = []api.Guard{}
		}
		if len(e.Act.Rights) == 0 {
			e.Act.Rights = []api.Right{}
		}
		same(t, "Fold of an entry with empty lists", mustFold(t, c, s, e), want)
	}
	c.Prices, s.Prices = nil, []api.Priced{}
	if !book.Right(c, s) {
		t.Errorf("a state with an empty list is not right: %+v", s)
	}
}

// The error that the list names first is told.
func TestP10_5First(t *testing.T) {
	c, s := store(), busy()
	bad := write(0, 9, line(0, -1))
	refuse(t, c, s, api.Entry{Position: 42, Act: bad, Outcome: api.Done}, api.ErrBookOrder)
	refuse(t, c, s, api.Entry{Position: 41, Act: bad, Outcome: api.Done}, api.ErrBookAct)
	bad.Number = 8
	refuse(t, c, s, api.Entry{Position: 41, Act: bad, Outcome: api.Done}, api.ErrBookOutcome)
	bad.Kind = api.ActNone
	refuse(t, c, s, api.Entry{Position: 41, Act: bad, Outcome: api.Done}, api.ErrBookFence)
	refuse(t, c, s, api.Entry{Position: 40, Act: bad, Outcome: api.Done}, api.ErrBookOrder)
}

func TestP10_6Held(t *testing.T) {
	s := busy()
	same(t, "Held of till 0", book.Held(s, 0), []api.Right{{Counter: 0, Way: api.Down, N: 5}, {Counter: 0, Way: api.Up, N: 2}, {Counter: 1, Way: api.Down, N: 1}})
	same(t, "Held of till 1", book.Held(s, 1), []api.Right{{Counter: 0, Way: api.Down, N: 2}, {Counter: 1, Way: api.Down, N: 4}, {Counter: 1, Way: api.Up, N: 1}})
	for till, want := range map[int]bool{0: true, 1: true, 2: false, 3: false, -1: false, math.MaxInt: false, math.MinInt: false} {
		if book.Any(s, till) != want || len(book.Held(s, till)) > 0 != want {
			t.Errorf("till %d: %v, %+v, want %v", till, book.Any(s, till), book.Held(s, till), want)
		}
	}
}

// Pools need not have the same tills.
func TestP10_6AnyState(t *testing.T) {
	s := api.State{Pools: []api.Pool{
		{Held: [][2]int64{{0, -1}}},
		{Held: [][2]int64{{1, 0}, {-7, 0}, {0, math.MaxInt64}}},
		{},
		{Held: [][2]int64{{math.MinInt64, 0}, {0, 0}, {1, 2}}},
	}}
	same(t, "Held of till 0", book.Held(s, 0), []api.Right{{Counter: 1, N: 1}})
	same(t, "Held of till 1", book.Held(s, 1), []api.Right{})
	same(t, "Held of till 2", book.Held(s, 2), []api.Right{{Counter: 1, Way: api.Up, N: math.MaxInt64}, {Counter: 3, N: 1}, {Counter: 3, Way: api.Up, N: 2}})
	if !book.Any(s, 0) || book.Any(s, 1) || !book.Any(s, 2) || book.Any(s, 3) {
		t.Error("Any is not what Held says")
	}
}
