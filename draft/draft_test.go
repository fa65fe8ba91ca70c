package draft_test

import (
	"fmt"
	"testing"

	"till/act"
	"till/api"
	"till/book"
	"till/draft"
	"till/share"
)

// tea is the configuration of the chapter's examples.
func tea() api.Config {
	return api.Config{
		Tills: 2, Counters: []api.Counter{{Name: "tea", Hi: 10, Start: 4}}, Prices: []api.Price{{Name: "tea", Start: 250}},
		Lease: 20, Watch: 16, Beat: 8, Window: 4, Cap: 8, Flight: 100,
	}
}

// store is one of three tills, two counters and two prices.
func store() api.Config {
	c := tea()
	c.Tills = 3
	c.Counters = []api.Counter{{Name: "tea", Lo: 2, Hi: 40, Start: 20}, {Name: "credit", Lo: -9, Hi: 9, Start: 1}}
	c.Prices = append(c.Prices, api.Price{Name: "cup", Start: 99})
	return c
}

// widest is a configuration at the limits.
func widest() api.Config {
	c := tea()
	c.Tills, c.Counters, c.Prices = api.MaxTills, nil, nil
	for i := range api.MaxCounters {
		name := fmt.Sprint("n", i)
		c.Counters = append(c.Counters, api.Counter{Name: name, Lo: -api.MaxBound, Hi: api.MaxBound, Start: api.MaxBound})
		c.Prices = append(c.Prices, api.Price{Name: name, Start: api.MaxAmount})
	}
	return c
}

func line(counter int, change int64) api.Line { return api.Line{Counter: counter, Change: change} }

func down(counter int, n int64) api.Right { return api.Right{Counter: counter, Way: api.Down, N: n} }

func up(counter int, n int64) api.Right { return api.Right{Counter: counter, Way: api.Up, N: n} }

func write(lines ...api.Line) api.Act { return api.Act{Kind: api.ActWrite, Lines: lines} }

func ask(x api.Right) api.Act { return api.Act{Kind: api.ActAsk, Right: x} }

func give(x api.Right) api.Act { return api.Act{Kind: api.ActGive, Right: x} }

func pass(to int, x api.Right) api.Act { return api.Act{Kind: api.ActPass, Right: x, To: to} }

func yield(gen uint64, rights ...api.Right) api.Act {
	return api.Act{Kind: api.ActYield, Gen: gen, Rights: rights}
}

// as is an act with a head.
func as(till int, number uint64, a api.Act) api.Act {
	a.Till, a.Number = till, number
	return a
}

func sure(a api.Act) api.Act {
	a.Sure = true
	return a
}

func guarded(a api.Act) api.Act {
	a.Guards = []api.Guard{{Kind: api.GuardLeast, N: 1}}
	return a
}

func setting(a api.Act) api.Act {
	a.Sets = []api.Set{{Version: -1, N: 275}}
	return a
}

func merging(kind int, a api.Act, other ...api.Line) api.Act {
	a.Merge = api.Merge{Kind: kind, Other: other}
	return a
}

// text tells a value without what is not seen of it: a nil list reads as an empty one.
func text(x any) string { return fmt.Sprintf("%+v", x) }

func same(t *testing.T, what string, got, want any) {
	t.Helper()
	if text(got) != text(want) {
		t.Errorf("%s:\n got %s\nwant %s", what, text(got), text(want))
	}
}

// told is all that a draft tells.
func told(d *draft.Draft) string {
	return fmt.Sprintf("base %+v\npending %+v\nview %+v\nnext %d", d.Base(), d.Pending(), d.View(), d.Next())
}

// isRefused makes a call that is refused, and looks whether anything has changed.
func isRefused(t *testing.T, what string, d *draft.Draft, call func() api.Errno, want api.Errno) {
	t.Helper()
	before := told(d)
	if errno := call(); errno != want {
		t.Errorf("%s: %d, want %d", what, errno, want)
	}
	if after := told(d); after != before {
		t.Errorf("%s has changed\n%s\nto\n%s", what, before, after)
	}
}

func issued(t *testing.T, d *draft.Draft, a api.Act, takes int, runs bool, number uint64, sure bool) {
	t.Helper()
	n, yes, errno := d.Issue(a, takes, runs)
	if n != number || yes != sure || errno != api.OK {
		t.Errorf("Issue(%+v, %d, %v): %d, %v, %d, want %d, %v", a, takes, runs, n, yes, errno, number, sure)
	}
}

func notIssued(t *testing.T, d *draft.Draft, a api.Act, takes int, runs bool, want api.Errno) {
	t.Helper()
	isRefused(t, fmt.Sprintf("Issue(%+v, %d, %v)", a, takes, runs), d, func() api.Errno {
		n, yes, errno := d.Issue(a, takes, runs)
		if n != 0 || yes {
			t.Errorf("Issue(%+v, %d, %v): %d, %v beside an error", a, takes, runs, n, yes)
		}
		return errno
	}, want)
}

func mustPut(t *testing.T, d *draft.Draft, a api.Act) {
	t.Helper()
	if errno := d.Put(a); errno != api.OK {
		t.Fatalf("Put(%+v): %d", a, errno)
	}
}

func notPut(t *testing.T, d *draft.Draft, a api.Act, want api.Errno) {
	t.Helper()
	isRefused(t, fmt.Sprintf("Put(%+v)", a), d, func() api.Errno { return d.Put(a) }, want)
}

// mustTake takes an entry that brings no yield.
func mustTake(t *testing.T, d *draft.Draft, e api.Entry) {
	t.Helper()
	a, due, errno := d.Take(e)
	if due || errno != api.OK || text(a) != text(api.Act{}) {
		t.Fatalf("Take(%+v): %+v, %v, %d", e, a, due, errno)
	}
}

func notTaken(t *testing.T, d *draft.Draft, e api.Entry, want api.Errno) {
	t.Helper()
	isRefused(t, fmt.Sprintf("Take(%+v)", e), d, func() api.Errno {
		a, due, errno := d.Take(e)
		if due || text(a) != text(api.Act{}) {
			t.Errorf("Take(%+v): %+v, %v beside an error", e, a, due)
		}
		return errno
	}, want)
}

// fencedAway takes a fence of a till, and tells the yield that it must bring.
func fencedAway(t *testing.T, c api.Config, d *draft.Draft, till int) api.Act {
	t.Helper()
	e := fence(t, c, d, till)
	a, due, errno := d.Take(e)
	if !due || errno != api.OK {
		t.Fatalf("Take(%+v): %+v, %v, %d", e, a, due, errno)
	}
	return a
}

func fence(t *testing.T, c api.Config, d *draft.Draft, till int) api.Entry {
	t.Helper()
	e, ok := book.Fence(c, d.Base(), till)
	if !ok {
		t.Fatalf("till %d can't be fenced in %+v", till, d.Base())
	}
	return e
}

// first is the entry of the first pending act.
func first(c api.Config, d *draft.Draft) api.Entry {
	return book.Next(c, d.Base(), d.Pending()[0])
}

// holder is a draft of till 1 of the store that holds 5 down and 2 up of counter 0 and 1 up of counter 1, with nothing pending; and the entries that it has taken.
func holder(t *testing.T) (*draft.Draft, []api.Entry) {
	t.Helper()
	d := draft.New(store(), 1)
	var entries []api.Entry
	for i, x := range []api.Right{down(0, 5), up(0, 2), up(1, 1)} {
		issued(t, d, ask(x), api.Loose, false, uint64(i)+1, false)
		entries = append(entries, first(store(), d))
		mustTake(t, d, entries[i])
	}
	available(t, d, 1, down(0, 5), up(0, 2), up(1, 1))
	return d, entries
}

func available(t *testing.T, d *draft.Draft, till int, want ...api.Right) {
	t.Helper()
	same(t, "available", share.Available(d.Base(), d.Pending(), till), want)
}

func TestExamples(t *testing.T) {
	c, d := tea(), draft.New(tea(), 0)
	same(t, "New", d.Base(), book.First(c))
	same(t, "Next of New", d.Next(), 1)
	one, two := write(line(0, -1)), write(line(0, -2))
	notIssued(t, d, one, api.Sure, true, api.ErrDraftRights)
	issued(t, d, one, api.Best, true, 1, false)
	same(t, "Next and View", []int64{int64(d.Next()), d.View().Pools[0].Value}, []int64{2, 3})
	issued(t, d, ask(down(0, 3)), api.Loose, false, 2, false)
	mustTake(t, d, api.Entry{Position: 1, Act: as(0, 1, one), Outcome: api.Applied, Made: one.Lines})
	mustTake(t, d, api.Entry{Position: 2, Act: as(0, 2, ask(down(0, 3))), Outcome: api.Granted, N: 3})
	same(t, "the base's rights of till 0", book.Held(d.Base(), 0), []api.Right{down(0, 3)})
	issued(t, d, two, api.Best, false, 3, false)
	issued(t, d, two, api.Sure, true, 4, true)
	notIssued(t, d, give(down(0, 2)), api.Loose, true, api.ErrDraftRights)
	all, due, errno := d.Take(api.Entry{Position: 3, Fence: 0, Gen: 1})
	if !due || errno != api.OK {
		t.Errorf("Take of a fence: %v, %d", due, errno)
	}
	same(t, "the yield", all, as(0, 5, yield(1, down(0, 1))))
	notIssued(t, d, one, api.Sure, true, api.ErrDraftRights)
	notTaken(t, d, api.Entry{Position: 9, Act: as(0, 3, two), Outcome: api.Rejected}, api.ErrDraftOrder)
	notTaken(t, d, api.Entry{Position: 4, Act: as(0, 4, sure(two)), Outcome: api.Applied, Made: two.Lines}, api.ErrBookAct)
}

func TestP13_1New(t *testing.T) {
	for _, c := range []api.Config{tea(), store(), widest()} {
		if act.Fits(c) != api.OK {
			t.Fatalf("%+v does not fit", c)
		}
		for till := range c.Tills {
			d := draft.New(c, till)
			same(t, "Base of New", d.Base(), book.First(c))
			same(t, "View of New", d.View(), book.First(c))
			if len(d.Pending()) != 0 || d.Next() != 1 {
				t.Errorf("New: %+v, %d", d.Pending(), d.Next())
			}
		}
	}
}

func TestP13_6View(t *testing.T) {
	d, _ := holder(t)
	want := d.Base()
	for _, x := range []struct {
		a     api.Act
		takes int
	}{
		{write(line(0, -4)), api.Sure}, {ask(down(0, 3)), api.Loose}, {setting(write(line(1, -2))), api.Loose}, {write(line(0, -30)), api.Loose},
		{merging(api.MergeClamp, write(line(0, -30))), api.Loose}, {give(up(0, 1)), api.Loose}, {pass(2, up(1, 1)), api.Loose},
	} {
		issued(t, d, x.a, x.takes, true, d.Next(), x.takes == api.Sure)
		pending := d.Pending()
		var errno api.Errno
		if want, errno = book.Fold(store(), want, book.Next(store(), want, pending[len(pending)-1])); errno != api.OK {
			t.Fatal(errno)
		}
		same(t, "View", d.View(), want)
	}
	// Of counter 0: 20, 4 lower by rights that are held, 10 lower by all that are free, when 3 of these were asked for.
	behind := api.State{
		Position: 10, Pools: []api.Pool{
			{Value: 6, Free: [2]int64{0, 33}, Held: [][2]int64{{}, {4, 1}, {}}},
			{Value: -1, Free: [2]int64{8, 9}, Held: [][2]int64{{}, {}, {0, 1}}},
		},
		Prices: []api.Priced{{Price: 275, Version: 1}, {Price: 99}}, Last: []uint64{0, 10, 0}, Gen: make([]uint64, 3), Owed: make([]bool, 3),
	}
	same(t, "the last View", d.View(), behind)
	same(t, "its base", d.Base().Position, 3)
}

func TestP13_6Copy(t *testing.T) {
	d, _ := holder(t)
	issued(t, d, write(line(0, -3)), api.Sure, true, 4, true)
	other := d.Copy()
	same(t, "a copy", told(other), told(d))
	before := told(d)
	issued(t, other, give(up(0, 2)), api.Loose, true, 5, false)
	mustTake(t, other, first(store(), other))
	fencedAway(t, store(), other, 1)
	same(t, "what was copied", told(d), before)
	kept := told(other)
	issued(t, d, ask(down(0, 1)), api.Loose, true, 5, false)
	notTaken(t, d, first(store(), other), api.ErrDraftOrder)
	fencedAway(t, store(), d, 1)
	same(t, "the copy", told(other), kept)
	notIssued(t, other.Copy(), write(line(0, -1)), api.Sure, true, api.ErrDraftRights)
}
