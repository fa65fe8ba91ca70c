package draft_test

import (
	"fmt"
	"math"
	"math/rand"
	"runtime"
	"slices"
	"testing"

	"till/api"
	"till/book"
	"till/draft"
)

// roomy is a list with spare room that holds something.
func roomy[T any](list []T, fill T) []T {
	out := append(slices.Clone(list), fill, fill, fill)
	return out[:len(list)]
}

func roomyAct(a api.Act) api.Act {
	x := line(7, 7)
	a.Lines, a.Merge.Other = roomy(a.Lines, x), roomy(a.Merge.Other, x)
	a.Guards, a.Sets, a.Rights = roomy(a.Guards, api.Guard{Kind: 7}), roomy(a.Sets, api.Set{Price: 7}), roomy(a.Rights, api.Right{N: 7})
	return a
}

func roomyActs(acts []api.Act) []api.Act {
	var out []api.Act
	for _, a := range acts {
		out = append(out, roomyAct(a))
	}
	return roomy(out, api.Act{Kind: 7})
}

func roomyEntry(e api.Entry) api.Entry {
	e.Act, e.Made, e.Sets = roomyAct(e.Act), roomy(e.Made, line(7, 7)), roomy(e.Sets, api.Set{Price: 7})
	return e
}

func roomyEntries(entries []api.Entry) []api.Entry {
	var out []api.Entry
	for _, e := range entries {
		out = append(out, roomyEntry(e))
	}
	return roomy(out, api.Entry{Position: 7})
}

// whole is what a list and its spare room hold.
func whole[T any](list []T) string { return fmt.Sprintf("%+v", list[:cap(list)]) }

func wholeActs(acts []api.Act) string {
	out := whole(acts)
	for _, a := range acts {
		out += whole(a.Lines) + whole(a.Guards) + whole(a.Sets) + whole(a.Merge.Other) + whole(a.Rights)
	}
	return out
}

func wholeEntries(entries []api.Entry) string {
	out := whole(entries)
	for _, e := range entries {
		out += wholeActs([]api.Act{e.Act}) + whole(e.Made) + whole(e.Sets)
	}
	return out
}

// scribble fills a list and its spare room with something else.
func scribble[T any](list []T, with T) {
	list = list[:cap(list)]
	for i := range list {
		list[i] = with
	}
}

func scribbleAct(a api.Act) {
	scribble(a.Lines, line(-9, -9))
	scribble(a.Merge.Other, line(-9, -9))
	scribble(a.Guards, api.Guard{Kind: -9})
	scribble(a.Sets, api.Set{Price: -9})
	scribble(a.Rights, api.Right{Counter: -9, N: -9})
}

func scribbleActs(acts []api.Act) {
	for _, a := range acts {
		scribbleAct(a)
	}
	scribble(acts, api.Act{Kind: -9})
}

func scribbleEntries(entries []api.Entry) {
	for _, e := range entries {
		scribbleAct(e.Act)
		scribble(e.Made, line(-9, -9))
		scribble(e.Sets, api.Set{Price: -9})
	}
	scribble(entries, api.Entry{Position: 99})
}

func scribbleState(s api.State) {
	for _, pool := range s.Pools {
		scribble(pool.Held, [2]int64{-9, -9})
	}
	scribble(s.Pools, api.Pool{Value: -9})
	scribble(s.Prices, api.Priced{Price: -9})
	scribble(s.Last, 99)
	scribble(s.Gen, 99)
	scribble(s.Owed, true)
}

// played draws a draft that has taken and issued something, and what it has taken.
func (r chance) played(t *testing.T) (api.Config, int, *draft.Draft, []api.Entry) {
	t.Helper()
	c := r.config()
	till := r.Intn(c.Tills)
	w := &walk{chance: r, T: t, c: c, till: till, d: draft.New(c, till), m: newModel(c, till), met: map[string]int{}}
	for range 30 {
		w.issue()
		w.take()
	}
	return c, till, w.d, w.m.entries
}

// What is written into an answer is not seen in the draft, nor in another answer.
func TestR2Answers(t *testing.T) {
	for seed := range int64(60) {
		_, _, d, _ := chance{rand.New(rand.NewSource(seed))}.played(t)
		before := told(d)
		base, pending, view := d.Base(), d.Pending(), d.View()
		other := d.Copy()
		scribbleState(d.Base())
		scribbleState(d.View())
		scribbleActs(d.Pending())
		same(t, "what was told", []any{base, pending, view}, []any{d.Base(), d.Pending(), d.View()})
		scribbleState(base)
		scribbleState(view)
		scribbleActs(pending)
		scribbleState(other.Base())
		scribbleState(other.View())
		scribbleActs(other.Pending())
		same(t, "the draft", told(d), before)
		same(t, "its copy", told(other), before)
	}
}

// With nothing pending the view is no other than the base, and yet new memory.
func TestR2ViewOfNothing(t *testing.T) {
	d := draft.New(store(), 1)
	scribbleState(d.View())
	scribbleState(d.Base())
	same(t, "View", d.View(), book.First(store()))
}

// The lists of one answer have nothing in common.
func TestR2ListsApart(t *testing.T) {
	d, _ := holder(t)
	a := merging(api.MergeOther, setting(guarded(write(line(0, -3), line(1, 1)))), line(0, -1))
	for range 3 {
		issued(t, d, a, api.Loose, true, d.Next(), false)
	}
	pending := d.Pending()
	scribbleAct(pending[0])
	same(t, "the acts behind the first", pending[1:], []api.Act{as(1, 5, a), as(1, 6, a)})
	scribble(pending[1].Lines, line(-9, -9))
	same(t, "the other lists of an act", pending[1].Merge.Other, a.Merge.Other)
	s := d.View()
	scribble(s.Pools[0].Held, [2]int64{7, 7})
	same(t, "the other pool", s.Pools[1].Held, d.View().Pools[1].Held)
	scribble(s.Last, 7)
	same(t, "the other lists", s.Gen, make([]uint64, 3))
}

// The yield that is told is not the one that is pending.
func TestR2Yield(t *testing.T) {
	d, _ := holder(t)
	a := fencedAway(t, store(), d, 1)
	before := told(d)
	scribbleAct(a)
	same(t, "the draft", told(d), before)
}

// What is handed in stays as it was, and what becomes of it later is not seen.
func TestR2HandedIn(t *testing.T) {
	for seed := range int64(60) {
		r := chance{rand.New(rand.NewSource(seed))}
		c, till, d, entries := r.played(t)
		pending := d.Pending()
		own := c
		own.Counters, own.Prices = roomy(c.Counters, api.Counter{Name: "7"}), roomy(c.Prices, api.Price{Name: "7"})
		given, acts := roomyEntries(entries), roomyActs(pending)
		was := whole(own.Counters) + whole(own.Prices) + wholeEntries(given) + wholeActs(acts)
		l, errno := draft.Load(own, till, given, acts)
		if errno != api.OK {
			t.Fatalf("Load: %d", errno)
		}
		n, empty := draft.New(own, till), draft.New(own, till)
		for _, e := range given {
			if e.Act.Kind != api.ActNone && e.Act.Till == till && len(n.Pending()) == 0 {
				n.Put(e.Act)
			}
			n.Take(e)
		}
		for _, a := range acts {
			l.Issue(a, api.Best, true)
		}
		if now := whole(own.Counters) + whole(own.Prices) + wholeEntries(given) + wholeActs(acts); now != was {
			t.Fatalf("what was handed in was changed:\n%s\n%s", was, now)
		}
		before := []string{told(l), told(n), told(empty)}
		scribbleEntries(given)
		scribbleActs(acts)
		scribble(own.Counters, api.Counter{Name: "x"})
		scribble(own.Prices, api.Price{Name: "x"})
		same(t, "what was made of it", []string{told(l), told(n), told(empty)}, before)
	}
}

// An act that is issued or put is not kept itself.
func TestR2Acts(t *testing.T) {
	d, _ := holder(t)
	a := roomyAct(merging(api.MergeOther, setting(guarded(write(line(0, -3)))), line(0, -1)))
	was := wholeActs([]api.Act{a})
	issued(t, d, a, api.Loose, true, 4, false)
	mustPut(t, d, as(1, 5, a))
	same(t, "what was handed in", wholeActs([]api.Act{a}), was)
	before := told(d)
	scribbleAct(a)
	same(t, "the draft", told(d), before)
	a = roomyAct(write(line(0, -3)))
	issued(t, d, a, api.Sure, true, 6, true)
	before = told(d)
	scribbleAct(a)
	same(t, "the draft", told(d), before)
}

// Two drafts have nothing in common, though they were made of the same.
func TestR2TwoDrafts(t *testing.T) {
	c := store()
	d, other := draft.New(c, 1), draft.New(c, 1)
	issued(t, d, ask(down(0, 1)), api.Loose, true, 1, false)
	mustTake(t, d, first(c, d))
	same(t, "another one", told(other), told(draft.New(c, 1)))
	// Neither do copies, however many acts each of them is given behind those that are common.
	for range 5 {
		issued(t, d, ask(down(0, 1)), api.Loose, true, d.Next(), false)
		one, two := d.Copy(), d.Copy()
		issued(t, one, ask(down(0, 2)), api.Loose, true, one.Next(), false)
		issued(t, two, ask(down(0, 3)), api.Loose, true, two.Next(), false)
		issued(t, d, ask(down(0, 4)), api.Loose, true, d.Next(), false)
		for i, x := range []*draft.Draft{one, two, d} {
			pending := x.Pending()
			same(t, "the last act", pending[len(pending)-1].Right.N, i+2)
		}
	}
}

// odd are numbers at which something may break.
var odd = []int{0, 1, -1, 2, 3, 8, 9, 63, 64, 300, 1 << 32, 1 << 40, 1 << 53, 1 << 54, math.MaxInt - 1, math.MaxInt, math.MinInt}

func (r chance) odd() int { return odd[r.Intn(len(odd))] }

// small is often a number that is there.
func (r chance) small() int {
	if r.Intn(3) > 0 {
		return r.Intn(4)
	}
	return r.odd()
}

func (r chance) oddRight() api.Right {
	return api.Right{Counter: r.small(), Way: r.small(), N: int64(r.small())}
}

func (r chance) oddAct() api.Act {
	a := api.Act{Head: api.Head{Till: r.small(), Number: uint64(r.small())}, Kind: r.Intn(8) - 1, Sure: r.Intn(2) == 0}
	lines := func() []api.Line { return make([]api.Line, r.Intn(2), 3) }
	a.Lines, a.Merge = append(lines(), line(r.small(), int64(r.small()))), api.Merge{Kind: r.Intn(6) - 1, Other: lines()}
	if r.Intn(2) == 0 {
		a.Right, a.To = r.oddRight(), r.small()
	}
	if r.Intn(2) == 0 {
		a.Gen, a.Rights = uint64(r.small()), []api.Right{r.oddRight()}
	}
	if r.Intn(2) == 0 {
		a.Guards, a.Sets = []api.Guard{{Kind: r.Intn(7) - 1, What: r.small(), N: int64(r.odd())}}, []api.Set{{Price: r.small(), Version: r.small(), N: int64(r.odd())}}
	}
	return a
}

func (r chance) oddEntry() api.Entry {
	e := api.Entry{Position: uint64(1 + r.Intn(3)), Act: r.oddAct(), Outcome: r.Intn(8) - 1, N: int64(r.small()), Fence: r.small(), Gen: uint64(r.small())}
	if r.Intn(3) == 0 {
		e.Act, e.Outcome, e.N = api.Act{}, 0, 0
	}
	return e
}

func (r chance) oddConfig() api.Config {
	c := r.config()
	c.Tills = r.small()
	for i := range c.Counters {
		c.Counters[i] = api.Counter{Lo: int64(r.odd()), Hi: int64(r.odd()), Start: int64(r.odd())}
	}
	if r.Intn(4) == 0 {
		c.Counters = nil
	}
	return c
}

// plainActs are acts that many a configuration takes.
func (r chance) plainActs(till int, number uint64) []api.Act {
	return []api.Act{
		as(till, number, ask(down(0, 1))), as(till, number, give(down(0, 1))), as(till, number, write(line(0, -1))),
		as(till, number, sure(write(line(0, 1)))), as(till, number, yield(1)), r.oddAct(),
	}
}

// Nothing may panic, of whatever configuration and till, whatever is called.
func TestR3Whatever(t *testing.T) {
	r := chance{rand.New(rand.NewSource(5))}
	for range 1500 {
		for _, c := range []api.Config{r.config(), r.oddConfig(), {}} {
			till := r.small()
			d := draft.New(c, till)
			for range 12 {
				acts := r.plainActs(till, d.Next())
				a := acts[r.Intn(len(acts))]
				d.Issue(a, r.small(), r.Intn(2) == 0)
				d.Put(a)
				d.Take(r.oddEntry())
				if pending := d.Pending(); len(pending) > 0 && r.Intn(2) == 0 {
					d.Take(book.Next(c, d.Base(), pending[0]))
				}
				if e, ok := book.Fence(c, d.Base(), till); ok && r.Intn(4) == 0 {
					d.Take(e)
				}
				d.View()
				d = d.Copy()
			}
			draft.Load(c, till, []api.Entry{r.oddEntry(), r.oddEntry()}, r.plainActs(till, 1))
			draft.Load(c, till, nil, d.Pending())
			draft.Load(c, till, nil, r.plainActs(till, 1)[4:])
		}
	}
	var zero draft.Draft
	zero.Issue(ask(down(0, 1)), api.Sure, true)
	zero.Put(as(0, 1, ask(down(0, 1))))
	zero.Take(api.Entry{Position: 1, Gen: 1})
	same(t, "a zero draft", told(&zero), told(zero.Copy()))
}

// Tills and amounts that are told as great numbers must not take room by these.
func TestR3NumbersTakeNoMemory(t *testing.T) {
	const rounds = 100
	var before, after runtime.MemStats
	runtime.ReadMemStats(&before)
	for _, n := range odd {
		c := tea()
		c.Tills = n
		for range rounds {
			d := draft.New(c, n)
			d.Issue(ask(down(n, int64(n))), n, true)
			d.Put(as(n, uint64(n), give(down(n, int64(n)))))
			d.Take(api.Entry{Position: uint64(n), Fence: n, Gen: uint64(n)})
			d.Copy().View()
		}
	}
	runtime.ReadMemStats(&after)
	if each := (after.TotalAlloc - before.TotalAlloc) / uint64(rounds*len(odd)); each > 10000 {
		t.Errorf("a round took %d bytes", each)
	}
}
