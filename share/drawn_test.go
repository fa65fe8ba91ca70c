package share_test

import (
	"math/big"
	"math/rand"
	"slices"
	"testing"

	"till/act"
	"till/api"
	"till/book"
	"till/share"
)

// chance draws what may be, the edges often.
type chance struct{ *rand.Rand }

func (r chance) number(least, most int64) int64 {
	switch r.Intn(4) {
	case 0:
		return least
	case 1:
		return most
	case 2:
		return least + r.Int63n(min(most-least, 9)+1)
	}
	return least + r.Int63n(most-least+1)
}

// near is a number from 1 to MaxAmount that often is just n, or next to it.
func (r chance) near(n int64) int64 {
	if r.Intn(4) > 0 {
		n += int64(r.Intn(3)) - 1
	} else {
		n = r.number(1, 12)
	}
	return min(max(n, 1), api.MaxAmount)
}

func (r chance) config() api.Config {
	c := store()
	c.Tills, c.Counters = 1+r.Intn(4), nil
	for i := range 1 + r.Intn(4) {
		bound := []int64{6, 30, 300, api.MaxBound}[r.Intn(4)]
		x := api.Counter{Name: string(rune('a' + i)), Lo: r.number(-bound, bound)}
		x.Hi = r.number(x.Lo, bound)
		x.Start = r.number(x.Lo, x.Hi)
		c.Counters = append(c.Counters, x)
	}
	return c
}

// parts are numbers that are n together.
func (r chance) parts(n int64, into int) []int64 {
	out := make([]int64, into)
	for i := range out {
		out[i] = r.number(0, n)
		n -= out[i]
	}
	out[r.Intn(into)] += n
	r.Shuffle(into, func(i, j int) { out[i], out[j] = out[j], out[i] })
	return out
}

// state draws a right state, as no row of entries may ever make it.
func (r chance) state(c api.Config) api.State {
	s := book.First(c)
	s.Position = uint64(r.Intn(1000))
	for till := range c.Tills {
		s.Last[till], s.Gen[till] = uint64(r.Intn(90)), uint64(r.Intn(4))
		s.Owed[till] = s.Gen[till] > 0 && r.Intn(2) > 0
	}
	for i, x := range c.Counters {
		pool := &s.Pools[i]
		pool.Value = r.number(x.Lo, x.Hi)
		for way, slack := range []int64{pool.Value - x.Lo, x.Hi - pool.Value} {
			parts := r.parts(slack, c.Tills+1)
			pool.Free[way] = parts[0]
			for till := range c.Tills {
				pool.Held[till][way] = parts[till+1]
			}
		}
	}
	return s
}

func change(way int, n int64) int64 {
	if way == api.Down {
		return -n
	}
	return n
}

func (r chance) lines(s api.State, till, n int) []api.Line {
	var out []api.Line
	for range n {
		counter, way := r.Intn(len(s.Pools)), r.Intn(2)
		amount := r.number(1, 9)
		if r.Intn(3) == 0 {
			amount = r.near(s.Pools[counter].Held[till][way])
		}
		out = append(out, line(counter, change(way, amount)))
	}
	return out
}

// act draws an act of a till that may be, whether or not it can be carried out.
func (r chance) act(c api.Config, s api.State, till int) api.Act {
	counter, way := r.Intn(len(s.Pools)), r.Intn(2)
	n := r.near(s.Pools[counter].Held[till][way])
	switch r.Intn(8) {
	case 0:
		return right(api.ActAsk, till, counter, way, r.near(s.Pools[counter].Free[way]))
	case 1:
		return give(till, counter, way, n)
	case 2:
		if c.Tills > 1 {
			return pass(till, (till+1+r.Intn(c.Tills-1))%c.Tills, counter, way, n)
		}
	case 3:
		return yield(till, max(s.Gen[till], 1), r.some(book.Held(s, till))...)
	case 4, 5:
		return sure(till, r.lines(s, till, 1+r.Intn(4))...)
	}
	a := write(till, r.lines(s, till, 1+r.Intn(4))...)
	if a.Merge.Kind = r.Intn(4); a.Merge.Kind == api.MergeOther {
		a.Merge.Other = r.lines(s, till, 1+r.Intn(2))
	}
	if r.Intn(3) == 0 {
		a.Guards = []api.Guard{{Kind: api.GuardLeast + r.Intn(3), What: counter, N: s.Pools[counter].Value}}
	}
	if r.Intn(3) == 0 {
		a.Sets = []api.Set{{Version: -1, N: r.number(0, api.MaxAmount)}}
	}
	return a
}

// some are all of rights, or some of them, or fewer of them.
func (r chance) some(rights []api.Right) []api.Right {
	switch r.Intn(3) {
	case 0:
		return rights
	case 1:
		return slices.DeleteFunc(rights, func(api.Right) bool { return r.Intn(2) == 0 })
	}
	for i := range rights {
		rights[i].N = r.number(1, rights[i].N)
	}
	return rights
}

func checked(t *testing.T, c api.Config, a api.Act) api.Act {
	t.Helper()
	if errno := act.Check(c, a); errno != api.OK {
		t.Fatalf("Check(%+v): %d", a, errno)
	}
	return a
}

// modelNeed is what an act needs of a counter and a way, by the words of P12.1.
func modelNeed(a api.Act, counter, way int) *big.Int {
	need := new(big.Int)
	if a.Kind == api.ActWrite && a.Sure {
		for _, x := range a.Lines {
			if n := big.NewInt(x.Change); x.Counter == counter && (n.Sign() > 0) == (way == api.Up) {
				need.Add(need, n.Abs(n))
			}
		}
	}
	rights := a.Rights // none but a yield has any
	if a.Kind == api.ActGive || a.Kind == api.ActPass {
		rights = []api.Right{a.Right}
	}
	for _, x := range rights {
		if x.Counter == counter && x.Way == way {
			need.Add(need, big.NewInt(x.N))
		}
	}
	return need
}

// modelLeft is what is left of a counter and a way, below 0 where more is needed than there is.
func modelLeft(s api.State, pending []api.Act, till, counter, way int) *big.Int {
	left := new(big.Int)
	if till >= 0 && till < len(s.Pools[counter].Held) {
		left.SetInt64(s.Pools[counter].Held[till][way])
	}
	for _, a := range pending {
		if a.Till == till {
			left.Sub(left, modelNeed(a, counter, way))
		}
	}
	return left
}

func modelAvailable(s api.State, pending []api.Act, till int) []api.Right {
	var out []api.Right
	for counter := range s.Pools {
		for way := range 2 {
			if n := modelLeft(s, pending, till, counter, way); n.Sign() > 0 {
				out = append(out, api.Right{Counter: counter, Way: way, N: n.Int64()})
			}
		}
	}
	return out
}

// modelMay tells whether a write of lines could be needed besides, and nothing were missing of the kinds that it needs.
func modelMay(s api.State, pending []api.Act, till int, lines []api.Line) bool {
	for counter := range s.Pools {
		for way := range 2 {
			need := modelNeed(sure(till, lines...), counter, way)
			if need.Sign() > 0 && need.Cmp(modelLeft(s, pending, till, counter, way)) > 0 {
				return false
			}
		}
	}
	return true
}

func TestP12_1And2Drawn(t *testing.T) {
	r := chance{rand.New(rand.NewSource(1))}
	met := map[bool]int{}
	some := 0
	for range 6000 {
		c := r.config()
		s := r.state(c)
		var pending []api.Act
		for range r.Intn(6) {
			pending = append(pending, checked(t, c, r.act(c, s, r.Intn(c.Tills))))
		}
		till := r.Intn(c.Tills+2) - 1
		want := modelAvailable(s, pending, till)
		available(t, s, pending, till, want...)
		some += min(len(want), 1)
		of := min(max(till, 0), c.Tills-1)
		for n := range 4 {
			lines := r.lines(s, of, n)
			wanted := modelMay(s, pending, till, lines)
			may(t, s, pending, till, wanted, lines...)
			met[wanted]++
		}
		for _, x := range want {
			n := min(x.N, api.MaxAmount)
			may(t, s, pending, till, true, line(x.Counter, change(x.Way, n)))
			may(t, s, pending, till, n < x.N, line(x.Counter, change(x.Way, n)), line(x.Counter, change(x.Way, 1)))
		}
	}
	if met[true] < 3000 || met[false] < 3000 || some < 1500 {
		t.Errorf("drawn: %v, and %d times something was available", met, some)
	}
}

// grantedFor draws an act of a till for which there is enough behind those that are pending already.
func (r chance) grantedFor(t *testing.T, c api.Config, s api.State, pending []api.Act, till int) (api.Act, bool) {
	have := share.Available(s, pending, till)
	a := checked(t, c, r.act(c, s, till))
	enough := func(rights []api.Right) bool {
		for _, x := range rights {
			i := slices.IndexFunc(have, func(y api.Right) bool { return y.Counter == x.Counter && y.Way == x.Way })
			if i < 0 || have[i].N < x.N {
				return false
			}
		}
		return true
	}
	switch {
	case a.Sure:
		return a, share.May(s, pending, till, a.Lines)
	case a.Kind == api.ActGive, a.Kind == api.ActPass:
		return a, enough([]api.Right{a.Right})
	case a.Kind == api.ActYield:
		a.Rights = r.some(slices.Clone(have))
		return checked(t, c, a), true
	}
	return a, true
}

// pending draws a till's acts, each granted for, numbered behind its last one.
func (r chance) pending(t *testing.T, c api.Config, s api.State, till int) []api.Act {
	t.Helper()
	var out []api.Act
	for range r.Intn(16) {
		if a, ok := r.grantedFor(t, c, s, out, till); ok && (a.Kind != api.ActYield || r.Intn(3) == 0) {
			a.Number = s.Last[till] + uint64(len(out)) + 1
			out = append(out, a)
		}
	}
	return out
}

// others draws an entry that is not of the till: an act of another, often a pass to it, or a fence.
func (r chance) others(c api.Config, s api.State, till int) (api.Entry, bool) {
	if c.Tills == 1 || r.Intn(4) == 0 {
		return book.Fence(c, s, r.Intn(c.Tills))
	}
	other := (till + 1 + r.Intn(c.Tills-1)) % c.Tills
	a := r.act(c, s, other)
	if a.Kind == api.ActPass && r.Intn(2) == 0 {
		a.To = till
	}
	a.Number = s.Last[other] + 1
	return book.Next(c, s, a), true
}

// noLess tells whether of each kind there are at least as many.
func noLess(have, had []api.Right) bool {
	for _, x := range had {
		if !slices.ContainsFunc(have, func(y api.Right) bool { return y.Counter == x.Counter && y.Way == x.Way && y.N >= x.N }) {
			return false
		}
	}
	return true
}

// walk folds the till's acts, others' entries among them and behind them, and looks at each step whether what was available is.
func (r chance) walk(t *testing.T, c api.Config, s api.State, pending []api.Act, till int, met map[[2]int]int) {
	t.Helper()
	had := share.Available(s, pending, till)
	for step := 0; step < 30 || len(pending) > 0; step++ {
		e, ok := r.others(c, s, till)
		if own := len(pending) > 0 && r.Intn(3) == 0; own {
			e, ok = book.Next(c, s, pending[0]), true
			pending = pending[1:]
			if e.Act.Sure && (e.Outcome != api.Applied || !slices.Equal(e.Made, e.Act.Lines)) || e.Act.Kind == api.ActGive && e.Outcome != api.Done {
				t.Fatalf("granted for, and yet: %+v in %+v", e, s)
			}
			met[[2]int{e.Act.Kind, e.Outcome}]++
		}
		if !ok {
			continue
		}
		before := s
		var errno api.Errno
		if s, errno = book.Fold(c, s, e); errno != api.OK {
			t.Fatalf("Fold(%+v) in %+v: %d", e, before, errno)
		}
		if now := share.Available(s, pending, till); !noLess(now, had) {
			t.Fatalf("%+v\nwas available, and behind %+v\nthere is %+v in %+v", had, e, now, s)
		}
		if !share.May(s, pending, till, asLines(had)) {
			t.Fatalf("%+v\nwas available, and behind %+v\nit may not be used in %+v", had, e, s)
		}
	}
}

// asLines are lines that need these rights, of each kind as many as one line may.
func asLines(rights []api.Right) []api.Line {
	var out []api.Line
	for _, x := range rights {
		out = append(out, line(x.Counter, change(x.Way, min(x.N, api.MaxAmount))))
	}
	return out
}

func TestP12_5WhatIsAvailableIsKept(t *testing.T) {
	r := chance{rand.New(rand.NewSource(2))}
	met := map[[2]int]int{}
	for range 2000 {
		c := r.config()
		s := r.state(c)
		if errno := act.Fits(c); errno != api.OK || !book.Right(c, s) {
			t.Fatalf("%+v: %d, or %+v is not right", c, errno, s)
		}
		till := r.Intn(c.Tills)
		r.walk(t, c, s, r.pending(t, c, s, till), till, met)
	}
	for _, x := range [][2]int{
		{api.ActWrite, api.Applied}, {api.ActWrite, api.Merged}, {api.ActWrite, api.Rejected}, {api.ActAsk, api.Granted},
		{api.ActGive, api.Done}, {api.ActPass, api.Done}, {api.ActYield, api.Done}, {api.ActYield, api.Rejected},
	} {
		if met[x] < 20 {
			t.Errorf("kind %d with outcome %d was drawn %d times only", x[0], x[1], met[x])
		}
	}
}
