package log_test

import (
	"math/rand"
	"runtime"
	"slices"
	"testing"

	"till/act"
	"till/api"
	"till/book"
	"till/log"
)

// chance draws what may be, the edges often.
type chance struct{ *rand.Rand }

func (r chance) config() api.Config {
	c := api.Config{Tills: 1 + r.Intn(4), Lease: 1, Watch: 9, Beat: 1, Window: 1, Cap: 1, Flight: 1}
	for i := range 1 + r.Intn(3) {
		x := api.Counter{Name: string(rune('a' + i)), Lo: -r.Int63n(9), Hi: r.Int63n(30)}
		x.Start = x.Lo + r.Int63n(x.Hi-x.Lo+1)
		c.Counters = append(c.Counters, x)
	}
	for i := range r.Intn(4) {
		c.Prices = append(c.Prices, api.Price{Name: string(rune('a' + i)), Start: r.Int63n(api.MaxAmount + 1)})
	}
	return c
}

func (r chance) lines(c api.Config, n int) []api.Line {
	var out []api.Line
	for range n {
		x := api.Line{Counter: r.Intn(len(c.Counters)), Change: 1 + r.Int63n(5)}
		if r.Intn(2) == 0 {
			x.Change = -x.Change
		}
		out = append(out, x)
	}
	return out
}

func (r chance) write(c api.Config, to api.Head) api.Act {
	a := api.Act{Head: to, Kind: api.ActWrite, Lines: r.lines(c, 1+r.Intn(3)), Sure: r.Intn(3) == 0}
	if a.Sure {
		return a
	}
	a.Merge.Kind = r.Intn(4)
	if a.Merge.Kind == api.MergeOther {
		a.Merge.Other = r.lines(c, 1+r.Intn(2))
	}
	for _, price := range r.Perm(len(c.Prices))[:r.Intn(len(c.Prices)+1)] {
		a.Sets = append(a.Sets, api.Set{Price: price, Version: -1, N: r.Int63n(1000)})
	}
	if r.Intn(2) == 0 {
		a.Guards = []api.Guard{{Kind: api.GuardLeast + r.Intn(2), What: r.Intn(len(c.Counters)), N: r.Int63n(20)}}
	}
	return a
}

// act draws a till's next act.
func (r chance) act(c api.Config, s api.State) api.Act {
	till := r.Intn(c.Tills)
	a := api.Act{Head: head(till, s.Last[till]+1)}
	some := api.Right{Counter: r.Intn(len(c.Counters)), Way: r.Intn(2), N: 1 + r.Int63n(6)}
	switch k := r.Intn(9); {
	case k < 3:
		a.Kind, a.Right = api.ActAsk, some
	case k < 4:
		a.Kind, a.Right = api.ActGive, some
	case k < 5 && c.Tills > 1:
		a.Kind, a.Right, a.To = api.ActPass, some, (till+1)%c.Tills
	case k < 6:
		a.Kind, a.Gen, a.Rights = api.ActYield, max(s.Gen[till], 1), book.Held(s, till)
	default:
		return r.write(c, a.Head)
	}
	return a
}

// entry draws one that folds.
func (r chance) entry(c api.Config, s api.State) api.Entry {
	if r.Intn(8) == 0 {
		if e, ok := book.Fence(c, s, r.Intn(c.Tills)); ok {
			return e
		}
	}
	return book.Next(c, s, r.act(c, s))
}

// row draws entries that may be added, and tells the states behind them, the first one ahead.
func (r chance) row(t *testing.T, c api.Config, n int) ([]api.Entry, []api.State) {
	t.Helper()
	var entries []api.Entry
	states := []api.State{book.First(c)}
	for range n {
		e := r.entry(c, states[len(states)-1])
		s, errno := book.Fold(c, states[len(states)-1], e)
		if errno != api.OK {
			t.Fatalf("Fold(%+v): %d", e, errno)
		}
		entries, states = append(entries, e), append(states, s)
	}
	return entries, states
}

// hurt spoils an entry in some way: sometimes only its form, sometimes only what it is behind the others.
func (r chance) hurt(e api.Entry) api.Entry {
	switch r.Intn(7) {
	case 0:
		e.Outcome = r.Intn(8) - 1
	case 1:
		e.Act.Kind = r.Intn(8) - 1
	case 2:
		e.Position += uint64(r.Intn(3)) - 1
	case 3:
		e.Act.Number += uint64(r.Intn(3)) - 1
	case 4:
		e.N += r.Int63n(3) - 1
	case 5:
		e.Gen, e.Fence = uint64(r.Intn(3)), r.Intn(4)-1
	case 6:
		e.Made = append(slices.Clone(e.Made), api.Line{Change: r.Int63n(3) - 1})
	}
	return e
}

// inOrder tells whether each till's acts are numbered 1, 2, .. without a gap.
func inOrder(c api.Config, entries []api.Entry) bool {
	last := make([]uint64, c.Tills)
	for _, e := range entries {
		if e.Act.Kind == api.ActNone {
			continue
		}
		if last[e.Act.Till]++; e.Act.Number != last[e.Act.Till] {
			return false
		}
	}
	return true
}

// Whatever is tried on a log, its entries stay as they were added, and its state is their fold and is right.
func TestP11_6WhatFollows(t *testing.T) {
	r := chance{rand.New(rand.NewSource(1))}
	met := map[[2]int]int{}
	refused := 0
	for range 60 {
		c := r.config()
		if errno := act.Fits(c); errno != api.OK {
			t.Fatalf("%+v: %d", c, errno)
		}
		entries, states := r.row(t, c, r.Intn(150))
		l := log.New(c)
		for i, e := range entries {
			for range r.Intn(3) {
				bad := r.hurt(e)
				_, want := book.Fold(c, states[i], bad)
				if want == api.OK {
					continue
				}
				if errno := l.Add(bad); errno != want {
					t.Fatalf("Add(%+v): %d, want %d", bad, errno, want)
				}
				refused++
			}
			mustAdd(t, l, e)
			met[[2]int{e.Act.Kind, e.Outcome}]++
			if s := l.State(); text(s) != text(states[i+1]) || !book.Right(c, s) {
				t.Fatalf("the state behind %+v: %+v", e, s)
			}
		}
		looksLike(t, l, entries, states[len(entries)])
		if !inOrder(c, l.From(0, l.Len())) {
			t.Fatalf("acts are not in order: %+v", entries)
		}
		for n := range len(entries) + 1 {
			verified(t, c, l.From(0, n), states[n], n, api.OK)
		}
	}
	if refused < 500 {
		t.Errorf("%d were refused only", refused)
	}
	for _, x := range [][2]int{
		{api.ActNone, api.OutcomeNone}, {api.ActWrite, api.Applied}, {api.ActWrite, api.Merged}, {api.ActWrite, api.Rejected}, {api.ActAsk, api.Granted},
		{api.ActGive, api.Done}, {api.ActGive, api.Rejected}, {api.ActPass, api.Done}, {api.ActPass, api.Rejected}, {api.ActYield, api.Done}, {api.ActYield, api.Rejected},
	} {
		if met[x] < 20 {
			t.Errorf("kind %d with outcome %d was drawn %d times only", x[0], x[1], met[x])
		}
	}
}

// Rows with drawn faults: Verify tells what adding them would, however the goroutines run.
func TestP11_5Drawn(t *testing.T) {
	r := chance{rand.New(rand.NewSource(2))}
	met := map[api.Errno]int{}
	for _, procs := range []int{1, 2, 8} {
		before := runtime.GOMAXPROCS(procs)
		for range 150 {
			c := r.config()
			entries, _ := r.row(t, c, 1+r.Intn(300))
			for range r.Intn(6) {
				place := r.Intn(len(entries))
				entries[place] = r.hurt(entries[place])
			}
			if r.Intn(8) == 0 {
				i, j := r.Intn(len(entries)), r.Intn(len(entries))
				entries[i], entries[j] = entries[j], entries[i]
			}
			_, errno := verifiedAsAdded(t, c, entries)
			met[errno]++
		}
		runtime.GOMAXPROCS(before)
	}
	for _, errno := range []api.Errno{api.OK, api.ErrBookOrder, api.ErrBookAct, api.ErrBookOutcome, api.ErrBookFence} {
		if met[errno] < 5 {
			t.Errorf("error %d was met %d times only", errno, met[errno])
		}
	}
}
