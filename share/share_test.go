package share_test

import (
	"fmt"
	"math"
	"slices"
	"testing"

	"till/act"
	"till/api"
	"till/book"
	"till/share"
)

// shelf is the state of the chapter's examples: two tills and one counter.
func shelf() api.State {
	return api.State{
		Pools: []api.Pool{{Value: 7, Free: [2]int64{0, 1}, Held: [][2]int64{{7, 2}, {0, 0}}}},
		Last:  []uint64{0, 0}, Gen: []uint64{0, 0}, Owed: []bool{false, false},
	}
}

// store is a configuration of three tills and two counters, and busy a right state of it.
func store() api.Config {
	return api.Config{
		Tills: 3, Counters: []api.Counter{{Name: "tea", Lo: 2, Hi: 20, Start: 9}, {Name: "credit", Lo: -5, Hi: 5, Start: -1}}, Prices: []api.Price{{Name: "tea", Start: 250}},
		Lease: 20, Watch: 16, Beat: 8, Window: 4, Cap: 8, Flight: 100,
	}
}

func busy() api.State {
	return api.State{
		Position: 40,
		Pools: []api.Pool{
			{Value: 12, Free: [2]int64{3, 6}, Held: [][2]int64{{5, 2}, {2, 0}, {0, 0}}},
			{Value: 1, Free: [2]int64{1, 3}, Held: [][2]int64{{1, 0}, {4, 1}, {0, 0}}},
		},
		Prices: []api.Priced{{Price: 300, Version: 2}},
		Last:   []uint64{7, 8, 0}, Gen: []uint64{1, 3, 0}, Owed: []bool{false, true, false},
	}
}

func write(till int, lines ...api.Line) api.Act {
	return api.Act{Head: api.Head{Till: till, Number: 1}, Kind: api.ActWrite, Lines: lines}
}

func sure(till int, lines ...api.Line) api.Act {
	a := write(till, lines...)
	a.Sure = true
	return a
}

func right(kind, till, counter, way int, n int64) api.Act {
	return api.Act{Head: api.Head{Till: till, Number: 1}, Kind: kind, Right: api.Right{Counter: counter, Way: way, N: n}}
}

func give(till, counter, way int, n int64) api.Act {
	return right(api.ActGive, till, counter, way, n)
}

func pass(till, to, counter, way int, n int64) api.Act {
	a := right(api.ActPass, till, counter, way, n)
	a.To = to
	return a
}

func yield(till int, gen uint64, rights ...api.Right) api.Act {
	return api.Act{Head: api.Head{Till: till, Number: 1}, Kind: api.ActYield, Gen: gen, Rights: rights}
}

func line(counter int, change int64) api.Line { return api.Line{Counter: counter, Change: change} }

func down(counter int, n int64) api.Right { return api.Right{Counter: counter, Way: api.Down, N: n} }

func up(counter int, n int64) api.Right { return api.Right{Counter: counter, Way: api.Up, N: n} }

// available holds what is available against what should be: none, and an empty list, are one.
func available(t *testing.T, s api.State, pending []api.Act, till int, want ...api.Right) {
	t.Helper()
	if got := share.Available(s, pending, till); !slices.Equal(got, want) {
		t.Errorf("Available to till %d of %+v\nbehind %+v:\n got %+v\nwant %+v", till, s.Pools, pending, got, want)
	}
}

func may(t *testing.T, s api.State, pending []api.Act, till int, want bool, lines ...api.Line) {
	t.Helper()
	if got := share.May(s, pending, till, lines); got != want {
		t.Errorf("May of till %d, %+v, of %+v\nbehind %+v: %v", till, lines, s.Pools, pending, got)
	}
}

func TestExamples(t *testing.T) {
	s := shelf()
	available(t, s, nil, 0, down(0, 7), up(0, 2))
	for _, till := range []int{1, 9, -1} {
		available(t, s, nil, till)
	}
	mixed := []api.Act{sure(0, line(0, -3), line(0, 1)), write(0, line(0, -4)), give(0, 0, api.Up, 1)}
	available(t, s, mixed, 0, down(0, 4))
	may(t, s, mixed, 0, true, line(0, -4))
	may(t, s, mixed, 0, false, line(0, -5))
	may(t, s, mixed, 0, false, line(0, 1))
	available(t, s, []api.Act{yield(0, 1, down(0, 7), up(0, 2))}, 0)
	available(t, s, []api.Act{sure(1, line(0, -3)), give(1, 0, api.Up, 1)}, 0, down(0, 7), up(0, 2))
	l := share.NewLease(2)
	lease(t, "a new lease", l, 0)
	l.Hear()
	lease(t, "one that has heard", l, 2)
	l.Tick()
	l.Tick()
	lease(t, "one of two ticks, behind two", l, 0)
	l = share.NewLease(-1)
	l.Hear()
	lease(t, "one of -1", l, 0)
}

func TestP12_1Held(t *testing.T) {
	s := busy()
	if !book.Right(store(), s) {
		t.Fatalf("%+v is not right", s)
	}
	available(t, s, nil, 0, down(0, 5), up(0, 2), down(1, 1))
	available(t, s, nil, 1, down(0, 2), down(1, 4), up(1, 1))
	for _, till := range []int{2, 3, -1, 1 << 40, math.MaxInt, math.MinInt} {
		available(t, s, nil, till)
		available(t, s, []api.Act{sure(0, line(0, -1)), sure(1, line(0, -1))}, till)
	}
	for _, till := range []int{0, 1, 2} {
		if got := share.Available(s, nil, till); !slices.Equal(got, book.Held(s, till)) {
			t.Errorf("with nothing pending till %d has %+v available", till, got)
		}
	}
}

// Each kind of act by itself: what it needs, to the last one.
func TestP12_1Needs(t *testing.T) {
	loose := write(0, line(0, -4), line(0, 2))
	loose.Guards, loose.Sets = []api.Guard{{Kind: api.GuardIs, N: 3}}, []api.Set{{Version: -1, N: 3}}
	loose.Merge = api.Merge{Kind: api.MergeOther, Other: []api.Line{line(0, -1)}}
	clamp := write(0, line(0, -4), line(1, -1))
	clamp.Merge.Kind = api.MergeClamp
	for _, x := range []struct {
		what string
		a    api.Act
		want []api.Right
	}{
		{"a sure write", sure(0, line(0, -4)), []api.Right{down(0, 1), up(0, 2), down(1, 1)}},
		{"of both counters", sure(0, line(1, -1), line(0, 1)), []api.Right{down(0, 5), up(0, 1)}},
		{"of lines of one kind", sure(0, line(0, -2), line(0, 2), line(0, -2)), []api.Right{down(0, 1), down(1, 1)}},
		{"of all of a kind", sure(0, line(0, -5)), []api.Right{up(0, 2), down(1, 1)}},
		{"a write that isn't sure", loose, []api.Right{down(0, 5), up(0, 2), down(1, 1)}},
		{"one with a merge", clamp, []api.Right{down(0, 5), up(0, 2), down(1, 1)}},
		{"an ask", right(api.ActAsk, 0, 0, api.Down, 4), []api.Right{down(0, 5), up(0, 2), down(1, 1)}},
		{"a give", give(0, 0, api.Down, 4), []api.Right{down(0, 1), up(0, 2), down(1, 1)}},
		{"a give of all of a kind", give(0, 1, api.Down, 1), []api.Right{down(0, 5), up(0, 2)}},
		{"a pass", pass(0, 2, 0, api.Up, 1), []api.Right{down(0, 5), up(0, 1), down(1, 1)}},
		{"a yield of some", yield(0, 1, down(0, 2), down(1, 1)), []api.Right{down(0, 3), up(0, 2)}},
		{"a yield of none", yield(0, 1), []api.Right{down(0, 5), up(0, 2), down(1, 1)}},
		{"a yield of all", yield(0, 1, down(0, 5), up(0, 2), down(1, 1)), nil},
	} {
		if errno := act.Check(store(), x.a); errno != api.OK {
			t.Fatalf("%s: %d", x.what, errno)
		}
		if got := share.Available(busy(), []api.Act{x.a}, 0); !slices.Equal(got, x.want) {
			t.Errorf("%s: %+v, want %+v", x.what, got, x.want)
		}
		others := x.a
		others.Till = 1
		if got := share.Available(busy(), []api.Act{others}, 0); !slices.Equal(got, book.Held(busy(), 0)) {
			t.Errorf("%s of another till: %+v", x.what, got)
		}
	}
}

// What several acts need is together, wherever among others' they stand; numbers aside.
func TestP12_1Together(t *testing.T) {
	acts := []api.Act{sure(0, line(0, -1)), sure(1, line(1, -3)), give(0, 0, api.Down, 1), right(api.ActAsk, 0, 0, api.Down, 9), pass(0, 1, 0, api.Down, 1), yield(0, 1, up(0, 1), down(1, 1))}
	acts[3].Number, acts[4].Number = 0, math.MaxUint64
	for range acts {
		acts = append(acts[1:], acts[0])
		available(t, busy(), acts, 0, down(0, 2), up(0, 1))
		available(t, busy(), acts, 1, down(0, 2), down(1, 1), up(1, 1))
		available(t, busy(), acts, 2)
	}
}

// Acts may need more than is held, of a kind or of one that is not held at all: then none of it is available, and the other kinds stay.
func TestP12_1MoreThanHeld(t *testing.T) {
	for _, acts := range [][]api.Act{
		{sure(0, line(0, -6))}, {give(0, 0, api.Down, api.MaxAmount)}, {yield(0, 1, down(0, api.MaxHeld))},
		{give(0, 0, api.Down, 3), give(0, 0, api.Down, 3)}, {give(0, 0, api.Down, 5), pass(0, 2, 1, api.Up, 1)},
	} {
		available(t, busy(), acts, 0, up(0, 2), down(1, 1))
		may(t, busy(), acts, 0, false, line(0, -1))
		may(t, busy(), acts, 0, true, line(0, 2))
		may(t, busy(), acts, 0, false, line(1, 1))
	}
}

// limits is a state at the limits: 64 counters, of which till 7 holds MaxHeld of one way or the other.
func limits() (api.Config, api.State) {
	c := store()
	c.Tills, c.Counters = api.MaxTills, nil
	for i := range api.MaxCounters {
		c.Counters = append(c.Counters, api.Counter{Name: fmt.Sprint("n", i), Lo: -api.MaxBound, Hi: api.MaxBound, Start: api.MaxBound})
	}
	s := book.First(c)
	for i := range s.Pools {
		pool := &s.Pools[i]
		way := i % 2
		if way == api.Up {
			pool.Value = -api.MaxBound
		}
		pool.Free = [2]int64{}
		pool.Held[7][way] = api.MaxHeld
	}
	return c, s
}

func TestP12_1Limits(t *testing.T) {
	c, s := limits()
	if errno := act.Fits(c); errno != api.OK || !book.Right(c, s) {
		t.Fatalf("%+v: %d, or %+v is not right", c, errno, s)
	}
	all := book.Held(s, 7)
	available(t, s, nil, 7, all...)
	var acts []api.Act
	for range 1 << 8 {
		acts = append(acts, yield(7, 1, all...))
	}
	available(t, s, acts[:1], 7)
	available(t, s, acts, 7) // of each kind 1 << 62 are needed
	less := slices.Clone(all)
	for i := range less {
		less[i].N--
	}
	available(t, s, []api.Act{yield(7, 1, less...)}, 7, ones(all)...)
	acts = nil
	for range 1 << 8 {
		a := sure(7)
		for i := range api.MaxLines {
			a.Lines = append(a.Lines, line(2*i, -api.MaxAmount))
		}
		acts = append(acts, a)
	}
	want := slices.Clone(all)
	for i := range api.MaxLines {
		want[2*i].N -= 1 << 48
	}
	available(t, s, acts, 7, want...)
}

func ones(rights []api.Right) []api.Right {
	rights = slices.Clone(rights)
	for i := range rights {
		rights[i].N = 1
	}
	return rights
}

func TestP12_2May(t *testing.T) {
	s := busy()
	mixed := []api.Act{sure(0, line(0, -1)), give(0, 0, api.Down, 1), sure(1, line(0, -2)), write(0, line(0, -5))}
	for _, x := range []struct {
		want  bool
		lines []api.Line
	}{
		{true, nil},
		{true, []api.Line{line(0, -3)}},
		{false, []api.Line{line(0, -4)}},
		{true, []api.Line{line(0, -1), line(0, -1), line(0, -1)}},
		{false, []api.Line{line(0, -1), line(0, -1), line(0, -1), line(0, -1)}},
		{true, []api.Line{line(0, -3), line(0, 2), line(1, -1)}},
		{false, []api.Line{line(0, -3), line(0, 3), line(1, -1)}},
		{false, []api.Line{line(0, -3), line(0, 2), line(1, -2)}},
		{false, []api.Line{line(1, 1)}},
		{false, []api.Line{line(0, -1), line(1, 1)}},
		{false, []api.Line{line(0, 2), line(0, -3), line(0, 1)}},
		{false, []api.Line{line(0, -4), line(0, 2)}}, // what the one way makes is free, not the till's
		{false, []api.Line{line(0, -api.MaxAmount)}},
	} {
		may(t, s, mixed, 0, x.want, x.lines...)
	}
	for _, till := range []int{2, 3, -1, math.MaxInt, math.MinInt} {
		may(t, s, mixed, till, true)
		may(t, s, mixed, till, false, line(0, -1))
	}
	may(t, s, mixed, 1, false, line(0, -1))
	may(t, s, mixed, 1, true, line(1, -4), line(1, 1))
}

// 1 << 13 lines need at most 1 << 53 together.
func TestP12_2ManyLines(t *testing.T) {
	_, s := limits()
	many := slices.Repeat([]api.Line{line(0, -api.MaxAmount)}, 1<<13)
	may(t, s, nil, 7, true, many...)
	s.Pools[0].Free[api.Down], s.Pools[0].Held[7][api.Down] = 1<<53, 1<<53
	may(t, s, nil, 7, true, many...)
	may(t, s, []api.Act{give(7, 0, api.Down, 1)}, 7, false, many...)
	s.Pools[0].Free[api.Down], s.Pools[0].Held[7][api.Down] = 1<<53+1, 1<<53-1
	may(t, s, nil, 7, false, many...)
}

func lease(t *testing.T, what string, l *share.Lease, left int) {
	t.Helper()
	if l.Left() != left || l.Runs() != (left > 0) {
		t.Errorf("%s: Left %d, Runs %v, want %d", what, l.Left(), l.Runs(), left)
	}
}

func TestP12_3Lease(t *testing.T) {
	for _, ticks := range []int{math.MinInt, math.MinInt + 1, -1, 0, 1, 2, 20, api.MaxTicks, math.MaxInt} {
		l, full := share.NewLease(ticks), max(ticks, 0)
		lease(t, "a new lease", l, 0)
		l.Tick()
		lease(t, "a new one behind a tick", l, 0)
		for range 2 {
			l.Hear()
			l.Hear()
			lease(t, "one that has heard", l, full)
			l.Tick()
			lease(t, "one that has heard, behind a tick", l, max(full-1, 0))
			l.Tick()
			lease(t, "behind two", l, max(full-2, 0))
		}
	}
}

func TestP12_6RunsJustSoLong(t *testing.T) {
	for _, ticks := range []int{-3, 0, 1, 2, 3, 16, api.MaxTicks} {
		l := share.NewLease(ticks)
		for range 3 {
			ran := 0
			for l.Hear(); l.Runs() && ran <= api.MaxTicks; l.Tick() {
				ran++
			}
			if ran != max(ticks, 0) {
				t.Errorf("a lease of %d ran for %d ticks", ticks, ran)
			}
			for range 5 {
				l.Tick()
				lease(t, "one that has run out", l, 0)
			}
		}
		l.Hear()
		for range ticks - 1 {
			l.Tick()
		}
		l.Hear() // at the last tick that it runs for: so it runs on
		lease(t, "one that has heard again", l, max(ticks, 0))
	}
}
