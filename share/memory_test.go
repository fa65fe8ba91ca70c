package share_test

import (
	"fmt"
	"math"
	"math/rand"
	"runtime"
	"slices"
	"testing"

	"till/api"
	"till/share"
)

// roomy is a list with spare room that holds something.
func roomy[T any](list []T, fill T) []T {
	out := append(slices.Clone(list), fill, fill, fill)
	return out[:len(list)]
}

// whole is what a list and its spare room hold.
func whole[T any](list []T) string { return fmt.Sprintf("%+v", list[:cap(list)]) }

// scribble fills a list and its spare room with something else.
func scribble[T any](list []T, with T) {
	list = list[:cap(list)]
	for i := range list {
		list[i] = with
	}
}

func roomyState(s api.State) api.State {
	s.Pools = slices.Clone(s.Pools)
	for i := range s.Pools {
		s.Pools[i].Held = roomy(s.Pools[i].Held, [2]int64{7, 7})
	}
	s.Pools, s.Prices = roomy(s.Pools, api.Pool{Value: 7}), roomy(s.Prices, api.Priced{Price: 7})
	s.Last, s.Gen, s.Owed = roomy(s.Last, 7), roomy(s.Gen, 7), roomy(s.Owed, true)
	return s
}

func roomyAct(a api.Act) api.Act {
	x := api.Line{Counter: 7, Change: 7}
	a.Lines, a.Merge.Other = roomy(a.Lines, x), roomy(a.Merge.Other, x)
	a.Guards, a.Sets, a.Rights = roomy(a.Guards, api.Guard{Kind: 7}), roomy(a.Sets, api.Set{Price: 7}), roomy(a.Rights, api.Right{N: 7})
	return a
}

func wholeState(s api.State) string {
	out := fmt.Sprint(s.Position) + whole(s.Pools) + whole(s.Prices) + whole(s.Last) + whole(s.Gen) + whole(s.Owed)
	for _, pool := range s.Pools {
		out += whole(pool.Held)
	}
	return out
}

func wholeActs(acts []api.Act) string {
	out := whole(acts)
	for _, a := range acts {
		out += whole(a.Lines) + whole(a.Guards) + whole(a.Sets) + whole(a.Merge.Other) + whole(a.Rights)
	}
	return out
}

func scribbleActs(acts []api.Act) {
	for _, a := range acts {
		scribble(a.Lines, api.Line{Counter: -9})
		scribble(a.Rights, api.Right{N: -9})
	}
	scribble(acts, api.Act{Kind: -9})
}

func scribbleState(s api.State) {
	for _, pool := range s.Pools {
		scribble(pool.Held, [2]int64{-9, -9})
	}
	scribble(s.Pools, api.Pool{Value: -9})
}

// What was handed in stays as it was, also when an answer is written into; an answer follows neither it nor another answer.
func TestP12_4Memory(t *testing.T) {
	r := chance{rand.New(rand.NewSource(3))}
	for range 2000 {
		c := r.config()
		s := roomyState(r.state(c))
		var pending []api.Act
		for range r.Intn(8) {
			pending = append(pending, roomyAct(r.act(c, s, r.Intn(c.Tills))))
		}
		pending = roomy(pending, api.Act{Kind: 7})
		till := r.Intn(c.Tills)
		lines := roomy(r.lines(s, till, r.Intn(4)), api.Line{Change: 7})
		state, acts, wanted := wholeState(s), wholeActs(pending), whole(lines)
		first, second := share.Available(s, pending, till), share.Available(s, pending, till)
		share.May(s, pending, till, lines)
		kept := fmt.Sprint(second)
		scribble(first, api.Right{Counter: -9, N: -9})
		if wholeState(s) != state || wholeActs(pending) != acts || whole(lines) != wanted {
			t.Fatalf("what was handed in was changed: %+v, %+v, %+v", s, pending, lines)
		}
		scribbleActs(pending)
		scribbleState(s)
		if fmt.Sprint(second) != kept {
			t.Fatalf("%s became %+v", kept, second)
		}
	}
}

// A yield's list and what a till holds are not what is told, though nothing were to be taken from it.
func TestP12_4AnswerIsNew(t *testing.T) {
	all := []api.Right{down(0, 7), up(0, 2)}
	acts := []api.Act{yield(1, 1, all...)}
	got := share.Available(shelf(), acts, 0)
	scribble(got, api.Right{N: -9})
	if !slices.Equal(acts[0].Rights, []api.Right{down(0, 7), up(0, 2)}) {
		t.Errorf("a yield became %+v", acts[0])
	}
}

func TestP12_4TwoLeases(t *testing.T) {
	l, other := share.NewLease(3), share.NewLease(3)
	l.Hear()
	lease(t, "another one, behind a Hear", other, 0)
	other.Hear()
	l.Tick()
	lease(t, "another one, behind a Tick", other, 3)
	share.NewLease(9).Hear()
	lease(t, "one, behind another's making", l, 2)
}

// odd are numbers at which something may break.
var odd = []int{0, 1, -1, 2, 3, 8, 63, 64, 1 << 32, 1 << 40, 1 << 53, 1 << 54, math.MaxInt - 1, math.MaxInt, math.MinInt, math.MinInt + 1}

// odd is often a number that is there.
func (r chance) odd() int {
	if r.Intn(2) > 0 {
		return r.Intn(3)
	}
	return odd[r.Intn(len(odd))]
}

func (r chance) oddRight() api.Right {
	return api.Right{Counter: r.odd(), Way: r.odd(), N: int64(r.odd())}
}

func (r chance) oddLines() []api.Line {
	out := make([]api.Line, r.Intn(12))
	for i := range out {
		out[i] = line(r.odd(), int64(r.odd()))
	}
	return out
}

func (r chance) oddAct() api.Act {
	a := api.Act{Head: api.Head{Till: r.odd(), Number: uint64(r.odd())}, Kind: r.Intn(8) - 1, Sure: r.Intn(2) == 0, Lines: r.oddLines(), Right: r.oddRight(), To: r.odd(), Gen: uint64(r.odd())}
	a.Merge = api.Merge{Kind: r.Intn(6) - 1, Other: r.oddLines()}
	for range r.Intn(6) {
		a.Rights = append(a.Rights, r.oddRight())
	}
	return a
}

// oddState has lists of lengths that do not go together, and any numbers in them.
func (r chance) oddState() api.State {
	var s api.State
	n := func() int64 { return int64(r.odd()) }
	for range r.Intn(4) {
		pool := api.Pool{Value: n(), Free: [2]int64{n(), n()}}
		for range r.Intn(4) {
			pool.Held = append(pool.Held, [2]int64{n(), n()})
		}
		s.Pools = append(s.Pools, pool)
	}
	return s
}

// Nothing may panic, of whatever state, acts and lines; and of the same the same is told.
func TestR3Whatever(t *testing.T) {
	r := chance{rand.New(rand.NewSource(4))}
	for range 4000 {
		var pending []api.Act
		for range r.Intn(6) {
			pending = append(pending, r.oddAct())
		}
		lines, till := r.oddLines(), r.odd()
		acts, wanted := wholeActs(pending), whole(lines)
		for _, s := range []api.State{r.oddState(), busy(), {}} {
			state := wholeState(s)
			first, yes := share.Available(s, pending, till), share.May(s, pending, till, lines)
			again, too := share.Available(s, pending, till), share.May(s, pending, till, lines)
			if !slices.Equal(first, again) || yes != too {
				t.Fatalf("%+v, %v, then %+v, %v, of %+v and %+v", first, yes, again, too, s, pending)
			}
			if wholeState(s) != state || wholeActs(pending) != acts || whole(lines) != wanted {
				t.Fatalf("what was handed in was changed: %+v, %+v, %+v", s, pending, lines)
			}
		}
	}
}

// Tills, counters and amounts that are told as great numbers must not take room by these.
func TestR3NumbersTakeNoMemory(t *testing.T) {
	const rounds = 200
	var before, after runtime.MemStats
	runtime.ReadMemStats(&before)
	for _, n := range odd {
		acts := []api.Act{sure(n, line(n, int64(n))), give(n, n, n, int64(n)), yield(n, uint64(n), api.Right{Counter: n, Way: n, N: int64(n)})}
		for range rounds {
			share.Available(busy(), acts, n)
			share.May(busy(), acts, n, acts[0].Lines)
			share.NewLease(n).Hear()
		}
	}
	runtime.ReadMemStats(&after)
	if each := (after.TotalAlloc - before.TotalAlloc) / uint64(rounds*len(odd)); each > 10000 {
		t.Errorf("a round took %d bytes", each)
	}
}
