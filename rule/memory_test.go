package rule_test

import (
	"fmt"
	"math"
	"math/rand"
	"runtime"
	"slices"
	"testing"

	"till/api"
	"till/rule"
)

// roomy is a list with spare room that holds something.
func roomy[T any](list []T, fill T) []T {
	out := append(slices.Clone(list), fill, fill, fill)
	return out[:len(list)]
}

// whole is what a list and its spare room hold.
func whole[T any](list []T) string { return fmt.Sprintf("%+v", list[:cap(list)]) }

func roomyState(s api.State) api.State {
	s = cloned(s)
	for i := range s.Pools {
		s.Pools[i].Held = roomy(s.Pools[i].Held, [2]int64{7, 7})
	}
	s.Pools, s.Prices = roomy(s.Pools, api.Pool{Value: 7}), roomy(s.Prices, api.Priced{Price: 7})
	s.Last, s.Gen, s.Owed = roomy(s.Last, 7), roomy(s.Gen, 7), roomy(s.Owed, true)
	return s
}

func roomyAct(a api.Act) api.Act {
	line := api.Line{Counter: 7, Change: 7}
	a.Lines, a.Merge.Other = roomy(a.Lines, line), roomy(a.Merge.Other, line)
	a.Guards, a.Sets, a.Rights = roomy(a.Guards, api.Guard{Kind: 7}), roomy(a.Sets, api.Set{Price: 7}), roomy(a.Rights, api.Right{N: 7})
	return a
}

func wholeState(s api.State) string {
	out := fmt.Sprint(s.Position) + whole(s.Pools) + whole(s.Prices) + whole(s.Last) + whole(s.Gen) + whole(s.Owed)
	for _, pool := range s.Pools {
		out += whole(pool.Held)
	}
	return out
}

func wholeAct(a api.Act) string {
	return fmt.Sprint(a.Head, a.Kind, a.Sure, a.Merge.Kind, a.Right, a.To, a.Gen) +
		whole(a.Lines) + whole(a.Guards) + whole(a.Sets) + whole(a.Merge.Other) + whole(a.Rights)
}

// scribble fills a list and its spare room with something else.
func scribble[T any](list []T, with T) {
	list = list[:cap(list)]
	for i := range list {
		list[i] = with
	}
}

// Whatever is written into an answer, what was handed in stays as it was, and so do other answers.
func TestP9_5Memory(t *testing.T) {
	drawn(t, 4, 2000, func(r chance, c api.Config, s api.State, a api.Act) {
		s, a = roomyState(s), roomyAct(a)
		state, acted := wholeState(s), wholeAct(a)
		first, second := judge(s, a), judge(s, a)
		needs, again := rule.Needs(a.Lines), rule.Needs(a.Lines)
		kept := fmt.Sprint(second, again)
		scribble(first.made, api.Line{Counter: -9, Change: -9})
		scribble(first.sets, api.Set{Price: -9})
		scribble(needs, api.Right{Counter: -9})
		rule.Free(s, a.Lines)
		rule.Holds(s, a.Till, a.Lines)
		rule.Guarded(s, a.Guards)
		rule.Open(s, a.Sets)
		if wholeState(s) != state || wholeAct(a) != acted {
			t.Fatalf("what was handed in was changed: %+v, %+v", s, a)
		}
		if fmt.Sprint(second, again) != kept {
			t.Fatalf("two answers share memory: %+v in %+v", a, s)
		}
	})
}

// An answer does not follow what becomes of an act's lists behind it.
func TestP9_5NothingIsKept(t *testing.T) {
	for _, a := range []api.Act{
		setting(write(l(-1)...), api.Set{Version: -1, N: 9}),
		sure(0, l(-1)...),
		merged(write(l(-5)...), api.MergeOther, l(-1)...),
		merged(guarded(setting(write(l(-1)...), api.Set{Version: -1, N: 9}), api.Guard{Kind: api.GuardIs}), api.MergeForce),
		merged(guarded(setting(write(l(-1)...), api.Set{Version: -1, N: 9}), api.Guard{Kind: api.GuardIs}), api.MergeClamp),
	} {
		got := judge(shelf(), a)
		want := fmt.Sprint(got)
		scribble(a.Lines, api.Line{Change: 77})
		scribble(a.Sets, api.Set{N: 77})
		scribble(a.Merge.Other, api.Line{Change: 77})
		if fmt.Sprint(got) != want || len(got.made) != 1 {
			t.Errorf("%s became %+v", want, got)
		}
	}
}

// odd are numbers at which something may break.
var odd = []int{0, 1, -1, 2, 3, 63, 64, 1 << 32, 1 << 40, 1 << 53, 1 << 54, math.MaxInt - 1, math.MaxInt, math.MinInt, math.MinInt + 1}

func (r chance) odd() int { return odd[r.Intn(len(odd))] }

func (r chance) oddLines() []api.Line {
	out := make([]api.Line, r.Intn(12))
	for i := range out {
		out[i] = api.Line{Counter: r.odd(), Change: int64(r.odd())}
	}
	return out
}

func (r chance) oddRight() api.Right {
	return api.Right{Counter: r.odd(), Way: r.odd(), N: int64(r.odd())}
}

func (r chance) oddAct() api.Act {
	a := api.Act{
		Head: api.Head{Till: r.odd(), Number: uint64(r.odd())}, Kind: r.Intn(8) - 1, Sure: r.Intn(3) == 0,
		Lines: r.oddLines(), Right: r.oddRight(), To: r.odd(), Gen: uint64(r.odd()),
		Merge: api.Merge{Kind: r.Intn(6) - 1, Other: r.oddLines()},
	}
	for range r.Intn(6) {
		a.Guards = append(a.Guards, api.Guard{Kind: r.Intn(7) - 1, What: r.odd(), N: int64(r.odd())})
		a.Sets = append(a.Sets, api.Set{Price: r.odd(), Version: r.odd(), N: int64(r.odd())})
		a.Rights = append(a.Rights, r.oddRight())
	}
	return a
}

// oddState has lists of lengths that do not go together, and any numbers in them.
func (r chance) oddState() api.State {
	var s api.State
	n := func() int64 { return int64(r.odd()) }
	for range r.Intn(4) {
		pool := api.Pool{Value: n(), Free: [2]int64{n(), n()}}
		for range r.Intn(4) {
			pool.Held = append(pool.Held, [2]int64{n(), n()})
		}
		s.Pools = append(s.Pools, pool)
	}
	for range r.Intn(4) {
		s.Prices = append(s.Prices, api.Priced{Price: n(), Version: n()})
	}
	for range r.Intn(4) {
		s.Gen = append(s.Gen, uint64(n()))
	}
	for range r.Intn(4) {
		s.Owed = append(s.Owed, r.Intn(2) == 0)
	}
	return s
}

func callAll(s api.State, a api.Act) {
	rule.Judge(s, a)
	rule.Needs(a.Lines)
	rule.Free(s, a.Lines)
	rule.Holds(s, a.Till, a.Lines)
	rule.Guarded(s, a.Guards)
	rule.Open(s, a.Sets)
}

// Nothing may panic, of whatever state and act.
func TestP9_5Whatever(t *testing.T) {
	r := chance{rand.New(rand.NewSource(5))}
	for range 20000 {
		s, a := r.oddState(), r.oddAct()
		c, rightState := r.state()
		state, acted := wholeState(s), wholeAct(a)
		callAll(s, a)
		callAll(rightState, a)
		callAll(s, r.act(c, rightState))
		callAll(api.State{}, a)
		if wholeState(s) != state || wholeAct(a) != acted {
			t.Fatalf("what was handed in was changed: %+v, %+v", s, a)
		}
	}
}

// Counters and amounts that are told as great numbers must not take room by these.
func TestP9_5NumbersTakeNoMemory(t *testing.T) {
	const rounds = 500
	great := []api.Line{{Counter: math.MaxInt, Change: math.MaxInt64}, {Counter: 1 << 40, Change: math.MinInt64}}
	for _, a := range []api.Act{
		write(great...), sure(1<<40, great...), merged(write(great...), api.MergeClamp), merged(write(great...), api.MergeOther, great...),
		setting(write(), api.Set{Price: 1 << 40, Version: -1}), right(api.ActAsk, 1<<40, 1<<40, 1<<40, 1<<40), yield(1<<40, 1, api.Right{Counter: 1 << 40, N: 1 << 40}),
	} {
		var before, after runtime.MemStats
		runtime.ReadMemStats(&before)
		for range rounds {
			callAll(shelf(), a)
		}
		runtime.ReadMemStats(&after)
		if each := (after.TotalAlloc - before.TotalAlloc) / rounds; each > 10000 {
			t.Errorf("%+v took %d bytes", a, each)
		}
	}
}
