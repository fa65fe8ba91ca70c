package draft_test

import (
	"math"
	"testing"

	"till/api"
	"till/book"
	"till/draft"
)

func TestP13_5Take(t *testing.T) {
	d, _ := holder(t)
	issued(t, d, write(line(0, -3)), api.Sure, true, 4, true)
	issued(t, d, ask(down(0, 9)), api.Loose, true, 5, false)
	pending := d.Pending()
	others := []api.Act{as(0, 1, write(line(0, -2))), as(2, 1, ask(up(1, 3))), as(2, 2, pass(1, up(1, 2)))}
	for _, a := range others {
		e := book.Next(store(), d.Base(), a)
		want, _ := book.Fold(store(), d.Base(), e)
		mustTake(t, d, e)
		same(t, "the base behind another's entry", d.Base(), want)
		same(t, "what is pending", d.Pending(), pending)
	}
	available(t, d, 1, down(0, 2), up(0, 2), up(1, 3)) // a pass has come
	for i := range pending {
		e := book.Next(store(), d.Base(), pending[i])
		want, _ := book.Fold(store(), d.Base(), e)
		mustTake(t, d, e)
		same(t, "the base behind an own entry", d.Base(), want)
		same(t, "what is pending", d.Pending(), pending[i+1:])
		same(t, "Next", d.Next(), 6)
	}
}

func TestP13_5Refused(t *testing.T) {
	d, entries := holder(t)
	issued(t, d, write(line(0, -3)), api.Sure, true, 4, true)
	issued(t, d, ask(down(0, 9)), api.Loose, true, 5, false)
	good := first(store(), d)
	at := func(position uint64, e api.Entry) api.Entry {
		e.Position = position
		return e
	}
	for _, position := range []uint64{0, 1, 2, 3, 5, 6, api.MaxNumber, math.MaxUint64} {
		notTaken(t, d, at(position, good), api.ErrDraftOrder)
		notTaken(t, d, api.Entry{Position: position, Fence: 1, Gen: 1}, api.ErrDraftOrder)
		notTaken(t, d, api.Entry{Position: position, Outcome: 77}, api.ErrDraftOrder)
	}
	notTaken(t, d, entries[2], api.ErrDraftOrder)
	notTaken(t, d, at(4, entries[2]), api.ErrBookAct)
	notTaken(t, d, book.Next(store(), d.Base(), d.Pending()[1]), api.ErrBookAct)
	notTaken(t, d, api.Entry{Position: 4}, api.ErrBookFence)
	notTaken(t, d, api.Entry{Position: 4, Fence: 1, Gen: 2}, api.ErrBookFence)
	notTaken(t, d, api.Entry{Position: 4, Fence: 3, Gen: 1}, api.ErrBookFence)
	bad := good
	bad.Outcome = api.Rejected
	notTaken(t, d, bad, api.ErrBookOutcome)
	mustTake(t, d, good)
}

// An entry of this till that folds, but whose act is another than the first pending one, in any of its parts.
func TestP13_5OtherAct(t *testing.T) {
	other := merging(api.MergeOther, setting(guarded(write(line(0, -3), line(1, 1)))), line(0, -1))
	for _, x := range []struct {
		a      api.Act
		spoils []func(a *api.Act)
	}{
		{other, []func(a *api.Act){
			func(a *api.Act) { a.Lines = []api.Line{line(0, -2), line(1, 1)} },
			func(a *api.Act) { a.Lines = a.Lines[:1] },
			func(a *api.Act) { a.Lines = []api.Line{line(1, 1), line(0, -3)} },
			func(a *api.Act) { a.Guards = nil },
			func(a *api.Act) { a.Guards = []api.Guard{{Kind: api.GuardLeast, N: 2}} },
			func(a *api.Act) { a.Sets = nil },
			func(a *api.Act) { a.Sets = []api.Set{{Version: -1, N: 276}} },
			func(a *api.Act) { a.Sets = []api.Set{{Price: 1, Version: -1, N: 275}} },
			func(a *api.Act) { a.Merge = api.Merge{} },
			func(a *api.Act) { a.Merge.Other = []api.Line{line(0, -2)} },
			func(a *api.Act) {
				a.Kind, a.Lines, a.Guards, a.Sets, a.Merge, a.Right = api.ActAsk, nil, nil, nil, api.Merge{}, down(0, 1)
			},
		}},
		{write(line(0, -3)), []func(a *api.Act){func(a *api.Act) { a.Sure = true }, func(a *api.Act) { a.Merge.Kind = api.MergeForce }, func(a *api.Act) { a.Merge.Kind = api.MergeClamp }}},
		{ask(down(0, 3)), []func(a *api.Act){func(a *api.Act) { a.Right = down(0, 4) }, func(a *api.Act) { a.Right = up(0, 3) }, func(a *api.Act) { a.Right = down(1, 3) }, func(a *api.Act) { a.Kind = api.ActGive }}},
		{pass(0, down(0, 3)), []func(a *api.Act){func(a *api.Act) { a.To = 2 }, func(a *api.Act) { a.Kind, a.To = api.ActGive, 0 }}},
	} {
		d, _ := holder(t)
		issued(t, d, x.a, api.Loose, true, 4, false)
		for _, spoil := range x.spoils {
			a := as(1, 4, x.a)
			spoil(&a)
			e := book.Next(store(), d.Base(), a)
			if _, errno := book.Fold(store(), d.Base(), e); errno != api.OK {
				t.Fatalf("Fold(%+v): %d", e, errno)
			}
			notTaken(t, d, e, api.ErrBookAct)
		}
		// An entry whose empty lists are not nil is the same one.
		e := first(store(), d)
		e.Act.Rights = []api.Right{}
		mustTake(t, d, e)
		notTaken(t, d, book.Next(store(), d.Base(), as(1, 5, x.a)), api.ErrBookAct) // nothing is pending
	}
	d := draft.New(store(), 0) // of till 0, whose number a fence's act has, too
	notTaken(t, d, book.Next(store(), d.Base(), as(0, 1, ask(down(0, 1)))), api.ErrBookAct)
	mustTake(t, d, fence(t, store(), d, 1))
}

// A yield that is another one than the pending one.
func TestP13_5OtherYield(t *testing.T) {
	d, _ := holder(t)
	fencedAway(t, store(), d, 1)
	for _, a := range []api.Act{yield(1), yield(1, down(0, 5), up(0, 2)), yield(2, down(0, 5), up(0, 2), up(1, 1)), yield(1, down(0, 5), up(0, 1), up(1, 1))} {
		notTaken(t, d, book.Next(store(), d.Base(), as(1, 4, a)), api.ErrBookAct)
	}
	mustTake(t, d, first(store(), d))
}

func TestP13_5Fence(t *testing.T) {
	d, _ := holder(t)
	mustTake(t, d, fence(t, store(), d, 0)) // another till's brings nothing
	mustTake(t, d, fence(t, store(), d, 2))
	issued(t, d, write(line(0, -3)), api.Sure, true, 4, true)
	issued(t, d, give(up(1, 1)), api.Loose, true, 5, false)
	issued(t, d, write(line(0, -9)), api.Loose, true, 6, false)
	before := d.Pending()
	want := as(1, 7, yield(1, down(0, 2), up(0, 2)))
	same(t, "the yield", fencedAway(t, store(), d, 1), want)
	same(t, "what is pending", d.Pending(), append(before, want))
	same(t, "Next", d.Next(), 8)
	same(t, "whether one is owed, and of which generation", []uint64{d.Base().Gen[1], uint64(d.Base().Position)}, []uint64{1, 6})
	if !d.Base().Owed[1] {
		t.Error("no yield is owed behind the fence")
	}
	for range 4 {
		mustTake(t, d, first(store(), d))
	}
	if d.Base().Owed[1] || book.Any(d.Base(), 1) {
		t.Errorf("behind the yield: %+v", d.Base())
	}
	// The next fence brings one of the next generation, of nothing at all.
	same(t, "the second yield", fencedAway(t, store(), d, 1), as(1, 8, yield(2)))
	same(t, "what is pending", d.Pending(), []api.Act{as(1, 8, yield(2))})
}

// Where there is no number left a fence brings no yield.
func TestP13_5NumbersEnd(t *testing.T) {
	d, _ := holder(t)
	draft.AtNumber(d, api.MaxNumber)
	mustTake(t, d, fence(t, store(), d, 1))
	same(t, "what is pending", len(d.Pending()), 0)
	d, _ = holder(t)
	draft.AtNumber(d, api.MaxNumber-1)
	issued(t, d, ask(down(0, 1)), api.Loose, true, api.MaxNumber, false)
	mustTake(t, d, fence(t, store(), d, 1))
	same(t, "what is pending", len(d.Pending()), 1)
	d, _ = holder(t)
	draft.AtNumber(d, api.MaxNumber-1)
	same(t, "the last yield", fencedAway(t, store(), d, 1), as(1, api.MaxNumber, yield(1, down(0, 5), up(0, 2), up(1, 1))))
	mustTake(t, d, first(store(), d))
}

// A yield's rights at their greatest: more than any other act may name.
func TestP13_5GreatYield(t *testing.T) {
	c := widest()
	d := draft.New(c, 7)
	var entries []api.Entry
	for range 70 {
		issued(t, d, ask(down(0, api.MaxAmount)), api.Loose, false, d.Next(), false)
		entries = append(entries, first(c, d))
		mustTake(t, d, entries[len(entries)-1])
	}
	entries = append(entries, fence(t, c, d, 7))
	same(t, "the yield", fencedAway(t, c, d, 7), as(7, 71, yield(1, down(0, 70*api.MaxAmount))))
	same(t, "what is loaded", told(loaded(t, c, 7, entries, d.Pending())), told(d))
	mustTake(t, d, first(c, d))
	available(t, d, 7)
}

func TestP13_9Fenced(t *testing.T) {
	d, _ := holder(t)
	issued(t, d, write(line(0, -3)), api.Sure, true, 4, true)
	issued(t, d, ask(down(0, 2)), api.Loose, true, 5, false)
	fencedAway(t, store(), d, 1)
	for range 2 {
		available(t, d, 1)
		for _, a := range []api.Act{write(line(0, -1)), write(line(0, 1)), write(line(1, 1))} {
			notIssued(t, d, a, api.Sure, true, api.ErrDraftRights)
		}
		notIssued(t, d, give(down(0, 1)), api.Loose, true, api.ErrDraftRights)
		mustTake(t, d, first(store(), d))
	}
	available(t, d, 1, down(0, 2)) // what is granted behind the fence is not in the yield
	issued(t, d, write(line(0, -2)), api.Sure, true, 7, true)
	for range 2 {
		e := first(store(), d)
		mustTake(t, d, e)
		if e.Outcome != api.Done && e.Outcome != api.Applied {
			t.Errorf("%+v", e)
		}
	}
	same(t, "View in the end", d.View(), d.Base())
}
