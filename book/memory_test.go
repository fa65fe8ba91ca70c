package book_test

import (
	"fmt"
	"math"
	"math/rand"
	"runtime"
	"slices"
	"testing"

	"till/api"
	"till/book"
)

// roomy is a list with spare room that holds something.
func roomy[T any](list []T, fill T) []T {
	out := append(slices.Clone(list), fill, fill, fill)
	return out[:len(list)]
}

// whole is what a list and its spare room hold.
func whole[T any](list []T) string { return fmt.Sprintf("%+v", list[:cap(list)]) }

func roomyState(s api.State) api.State {
	s = cloned(s)
	for i := range s.Pools {
		s.Pools[i].Held = roomy(s.Pools[i].Held, [2]int64{7, 7})
	}
	s.Pools, s.Prices = roomy(s.Pools, api.Pool{Value: 7}), roomy(s.Prices, api.Priced{Price: 7})
	s.Last, s.Gen, s.Owed = roomy(s.Last, 7), roomy(s.Gen, 7), roomy(s.Owed, true)
	return s
}

func roomyAct(a api.Act) api.Act {
	x := api.Line{Counter: 7, Change: 7}
	a.Lines, a.Merge.Other = roomy(a.Lines, x), roomy(a.Merge.Other, x)
	a.Guards, a.Sets, a.Rights = roomy(a.Guards, api.Guard{Kind: 7}), roomy(a.Sets, api.Set{Price: 7}), roomy(a.Rights, api.Right{N: 7})
	return a
}

func roomyEntry(e api.Entry) api.Entry {
	e.Act, e.Made, e.Sets = roomyAct(e.Act), roomy(e.Made, api.Line{Counter: 7}), roomy(e.Sets, api.Set{Price: 7})
	return e
}

func wholeState(s api.State) string {
	out := fmt.Sprint(s.Position) + whole(s.Pools) + whole(s.Prices) + whole(s.Last) + whole(s.Gen) + whole(s.Owed)
	for _, pool := range s.Pools {
		out += whole(pool.Held)
	}
	return out
}

func wholeAct(a api.Act) string {
	return fmt.Sprint(a.Head, a.Kind, a.Sure, a.Merge.Kind, a.Right, a.To, a.Gen) +
		whole(a.Lines) + whole(a.Guards) + whole(a.Sets) + whole(a.Merge.Other) + whole(a.Rights)
}

func wholeEntry(e api.Entry) string {
	return fmt.Sprint(e.Position, e.Outcome, e.N, e.Fence, e.Gen) + wholeAct(e.Act) + whole(e.Made) + whole(e.Sets)
}

// scribble fills a list and its spare room with something else.
func scribble[T any](list []T, with T) {
	list = list[:cap(list)]
	for i := range list {
		list[i] = with
	}
}

func scribbleState(s api.State) {
	for _, pool := range s.Pools {
		scribble(pool.Held, [2]int64{-9, -9})
	}
	scribble(s.Pools, api.Pool{Value: -9})
	scribble(s.Prices, api.Priced{Price: -9})
	scribble(s.Last, 99)
	scribble(s.Gen, 99)
	scribble(s.Owed, true)
}

func scribbleEntry(e api.Entry) {
	for _, list := range [][]api.Line{e.Made, e.Act.Lines, e.Act.Merge.Other} {
		scribble(list, api.Line{Counter: -9})
	}
	scribble(e.Sets, api.Set{Price: -9})
	scribble(e.Act.Sets, api.Set{Price: -9})
	scribble(e.Act.Guards, api.Guard{Kind: -9})
	scribble(e.Act.Rights, api.Right{N: -9})
}

// Whatever is written into an answer, what was handed in stays as it was, and so do other answers.
func TestR2Answers(t *testing.T) {
	r := chance{rand.New(rand.NewSource(4))}
	for range 1500 {
		c := r.config()
		s := roomyState(r.state(c))
		s.Position, s.Last = 0, make([]uint64, c.Tills)
		a := roomyAct(r.act(c, s))
		state, acted := wholeState(s), wholeAct(a)
		e, other := book.Next(c, s, a), book.Next(c, s, a)
		apart := wholeEntry(other)
		scribbleEntry(e)
		if wholeEntry(other) != apart {
			t.Fatalf("two entries share memory: %+v", other)
		}
		other = roomyEntry(other)
		entry := wholeEntry(other)
		u, errno := book.Fold(c, s, other)
		again, _ := book.Fold(c, s, other)
		kept := wholeState(again)
		if errno != api.OK {
			t.Fatalf("Fold(%+v): %d", other, errno)
		}
		scribbleState(u)
		held, too := book.Held(s, a.Till), book.Held(s, a.Till)
		rights := text(too)
		scribble(held, api.Right{N: -9})
		if wholeState(s) != state || wholeAct(a) != acted || wholeEntry(other) != entry {
			t.Fatalf("what was handed in was changed: %+v, %+v, %+v", s, a, other)
		}
		if wholeState(again) != kept || text(too) != rights {
			t.Fatalf("two answers share memory: %+v in %+v", a, s)
		}
		first, second := book.First(c), book.First(c)
		want := wholeState(second)
		scribbleState(first)
		if wholeState(second) != want {
			t.Fatalf("two first states share memory: %+v", c)
		}
	}
}

// The lists of one answer have nothing in common: what is written into one is not seen in another.
func TestR2ListsApart(t *testing.T) {
	c, s := store(), busy()
	for _, u := range []api.State{book.First(c), mustFold(t, c, s, book.Next(c, s, everyAct()[0]))} {
		scribble(u.Pools[0].Held, [2]int64{-9, -9})
		scribble(u.Last, 99)
		if fmt.Sprint(u.Pools[1].Held) == fmt.Sprint(u.Pools[0].Held) || u.Gen[0] == 99 {
			t.Errorf("lists of one answer share memory: %+v", u)
		}
	}
	a := write(0, 8, line(0, -9))
	a.Sets, a.Merge = []api.Set{{Version: -1, N: 5}}, api.Merge{Kind: api.MergeOther, Other: []api.Line{line(0, -1)}}
	e := book.Next(c, s, a)
	scribble(e.Made, line(1, 77))
	same(t, "the act behind what was made", e.Act, a)
}

// An entry and a state do not follow what becomes of that from which they were made.
func TestR2NothingIsKept(t *testing.T) {
	c := store()
	for i := range everyAct() {
		s, a := busy(), everyAct()[i]
		e := book.Next(c, s, a)
		want := wholeEntry(e)
		u := mustFold(t, c, s, e)
		state := wholeState(u)
		scribbleState(s)
		scribbleEntry(api.Entry{Act: a})
		if wholeEntry(e) != want {
			t.Errorf("%s became %+v", want, e)
		}
		scribbleEntry(e)
		if wholeState(u) != state {
			t.Errorf("%s became %+v", state, u)
		}
	}
}

// odd are numbers at which something may break.
var odd = []int{0, 1, -1, 2, 3, 8, 9, 63, 64, 1 << 32, 1 << 40, 1 << 53, 1 << 54, math.MaxInt - 1, math.MaxInt, math.MinInt, math.MinInt + 1}

func (r chance) odd() int { return odd[r.Intn(len(odd))] }

// small is often a number that is there.
func (r chance) small() int {
	if r.Intn(3) > 0 {
		return r.Intn(4)
	}
	return r.odd()
}

func (r chance) oddLines() []api.Line {
	out := make([]api.Line, r.Intn(4))
	for i := range out {
		out[i] = api.Line{Counter: r.small(), Change: int64(r.small())}
	}
	return out
}

func (r chance) oddRight() api.Right {
	return api.Right{Counter: r.small(), Way: r.small(), N: int64(r.small())}
}

func (r chance) oddAct() api.Act {
	a := api.Act{
		Head: api.Head{Till: r.small(), Number: uint64(r.small())}, Kind: r.Intn(8) - 1, Sure: r.Intn(3) == 0,
		Lines: r.oddLines(), Right: r.oddRight(), To: r.small(), Gen: uint64(r.small()),
		Merge: api.Merge{Kind: r.Intn(6) - 1, Other: r.oddLines()},
	}
	for range r.Intn(3) {
		a.Guards = append(a.Guards, api.Guard{Kind: r.Intn(7) - 1, What: r.small(), N: int64(r.odd())})
		a.Sets = append(a.Sets, api.Set{Price: r.small(), Version: r.small(), N: int64(r.odd())})
		a.Rights = append(a.Rights, r.oddRight())
	}
	return a
}

func (r chance) oddEntry() api.Entry {
	e := api.Entry{Position: uint64(r.small()), Act: r.oddAct(), Outcome: r.Intn(8) - 1, Made: r.oddLines(), N: int64(r.odd()), Fence: r.small(), Gen: uint64(r.small())}
	for range r.Intn(3) {
		e.Sets = append(e.Sets, api.Set{Price: r.small(), Version: r.small(), N: int64(r.odd())})
	}
	return e
}

// oddState has lists of lengths that do not go together, and any numbers in them.
func (r chance) oddState() api.State {
	s := api.State{Position: uint64(r.small())}
	n := func() int64 { return int64(r.small()) }
	for range r.Intn(4) {
		pool := api.Pool{Value: n(), Free: [2]int64{n(), n()}}
		for range r.Intn(4) {
			pool.Held = append(pool.Held, [2]int64{n(), n()})
		}
		s.Pools = append(s.Pools, pool)
	}
	for range r.Intn(4) {
		s.Prices = append(s.Prices, api.Priced{Price: n(), Version: n()})
	}
	for range r.Intn(4) {
		s.Last = append(s.Last, uint64(n()))
	}
	for range r.Intn(4) {
		s.Gen = append(s.Gen, uint64(n()))
	}
	for range r.Intn(4) {
		s.Owed = append(s.Owed, r.Intn(2) == 0)
	}
	return s
}

func (r chance) oddConfig() api.Config {
	c := r.config()
	c.Tills = r.small()
	for i := range c.Counters {
		c.Counters[i] = api.Counter{Lo: int64(r.odd()), Hi: int64(r.odd()), Start: int64(r.odd())}
	}
	if r.Intn(4) == 0 {
		c.Counters = nil
	}
	return c
}

// callAll calls everything, also with what fits together by half.
func callAll(c api.Config, s api.State, a api.Act, e api.Entry, till int) {
	book.First(c)
	book.Right(c, s)
	book.Right(c, book.First(c))
	book.Held(s, till)
	book.Any(s, till)
	fence, _ := book.Fence(c, s, till)
	for _, x := range []api.Entry{e, fence, {Position: s.Position + 1, Fence: till, Gen: 1}, book.Next(c, s, a)} {
		book.Fold(c, s, x)
	}
	if a.Till >= 0 && a.Till < len(s.Last) {
		a.Number = s.Last[a.Till] + 1
		book.Fold(c, s, book.Next(c, s, a))
	}
}

// Nothing may panic, of whatever configuration, state, act and entry.
func TestR3Whatever(t *testing.T) {
	r := chance{rand.New(rand.NewSource(5))}
	for range 15000 {
		c, s, a, e, till := r.config(), r.oddState(), r.oddAct(), r.oddEntry(), r.small()
		state, entry := wholeState(s), wholeEntry(e)
		right := r.state(c)
		callAll(c, s, a, e, till)
		callAll(c, s, r.act(c, right), e, till)
		callAll(c, right, a, e, till)
		callAll(r.oddConfig(), s, a, e, till)
		callAll(r.oddConfig(), right, r.act(c, right), e, till)
		callAll(api.Config{}, api.State{}, a, e, till)
		if wholeState(s) != state || wholeEntry(e) != entry {
			t.Fatalf("what was handed in was changed: %+v, %+v", s, e)
		}
	}
}

// A state that lacks one list of its own is no reason to panic, whatever the rest of it and the act would do.
func TestR3ShortLists(t *testing.T) {
	c := store()
	for i := range everyAct() {
		for _, cut := range []func(s *api.State){
			func(s *api.State) { s.Pools = s.Pools[:1] },
			func(s *api.State) { s.Pools = nil },
			func(s *api.State) { s.Pools[0].Held = nil },
			func(s *api.State) { s.Pools[1].Held = s.Pools[1].Held[:1] },
			func(s *api.State) { s.Prices = nil },
			func(s *api.State) { s.Last = s.Last[:0] },
			func(s *api.State) { s.Gen = nil },
			func(s *api.State) { s.Owed = nil },
		} {
			s, a := busy(), everyAct()[i]
			cut(&s)
			callAll(c, s, a, book.Next(c, s, a), 0)
		}
	}
}

// Tills that are told as a great number must not take room by it.
func TestR3NumbersTakeNoMemory(t *testing.T) {
	const rounds = 500
	c := store()
	var before, after runtime.MemStats
	runtime.ReadMemStats(&before)
	for _, tills := range odd {
		c.Tills = tills
		for range rounds {
			callAll(c, busy(), everyAct()[0], api.Entry{}, tills)
		}
	}
	runtime.ReadMemStats(&after)
	if each := (after.TotalAlloc - before.TotalAlloc) / uint64(rounds*len(odd)); each > 20000 {
		t.Errorf("a round took %d bytes", each)
	}
}
