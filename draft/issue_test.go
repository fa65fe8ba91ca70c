package draft_test

import (
	"math"
	"testing"

	"till/api"
	"till/draft"
)

// A kind that is none is told ahead of all other faults.
func TestP13_2Kind(t *testing.T) {
	d, _ := holder(t)
	for _, kind := range []int{api.ActNone, api.ActYield, -1, api.ActYield + 1, math.MaxInt, math.MinInt} {
		for _, a := range []api.Act{{}, write(line(7, 0)), ask(api.Right{}), pass(9, down(9, 9)), yield(1, down(0, 1)), setting(guarded(write()))} {
			a.Kind = kind
			notIssued(t, d, a, api.Loose, true, api.ErrActKind)
			notIssued(t, d, a, api.Sure, false, api.ErrActKind)
		}
	}
	full(t, d)
	notIssued(t, d, yield(1), api.Sure, true, api.ErrActKind)
}

// full issues asks till there is no room for more.
func full(t *testing.T, d *draft.Draft) {
	t.Helper()
	for len(d.Pending()) < api.MaxPending {
		issued(t, d, ask(down(0, 1)), api.Loose, true, d.Next(), false)
	}
}

// What act.Check refuses is told by its error, ahead of a draft that is full and of rights that there are not.
func TestP13_2Check(t *testing.T) {
	faults := []struct {
		want api.Errno
		a    api.Act
	}{
		{api.ErrActKind, api.Act{Kind: api.ActWrite, Lines: []api.Line{line(0, -1)}, Gen: 1}},
		{api.ErrActKind, api.Act{Kind: api.ActAsk, Right: down(0, 1), Lines: []api.Line{line(0, -1)}}},
		{api.ErrActKind, api.Act{Kind: api.ActGive, Right: down(0, 1), To: 1}},
		{api.ErrActLine, write()},
		{api.ErrActLine, write(line(0, 0))},
		{api.ErrActLine, write(line(2, -1))},
		{api.ErrActLine, write(line(0, -api.MaxAmount-1))},
		{api.ErrActLine, write(make([]api.Line, api.MaxLines+1)...)},
		{api.ErrActGuard, api.Act{Kind: api.ActWrite, Lines: []api.Line{line(0, -1)}, Guards: []api.Guard{{Kind: 9}}}},
		{api.ErrActSet, api.Act{Kind: api.ActWrite, Sets: []api.Set{{Price: 2, Version: -1}}}},
		{api.ErrActMerge, merging(api.MergeOther, write(line(0, -1)))},
		{api.ErrActRight, ask(down(0, 0))},
		{api.ErrActRight, give(down(0, api.MaxAmount+1))},
		{api.ErrActRight, give(down(2, 1))},
		{api.ErrActRight, pass(1, down(0, 1))}, // to itself
		{api.ErrActRight, pass(3, down(0, 1))},
	}
	d, _ := holder(t)
	for range 2 {
		for _, x := range faults {
			for _, takes := range []int{api.Loose, api.Best, api.Sure} {
				notIssued(t, d, x.a, takes, true, x.want)
			}
		}
		full(t, d)
	}
}

// The head and the Sure of what is issued are not looked at.
func TestP13_2NotLookedAt(t *testing.T) {
	for _, head := range []api.Head{{}, {Till: 1, Number: 4}, {Till: 0, Number: 9}, {Till: -1}, {Till: 99, Number: math.MaxUint64}} {
		for _, yes := range []bool{false, true} {
			d, _ := holder(t)
			var want []api.Act
			for _, a := range []api.Act{ask(down(0, 1)), give(down(0, 1)), pass(0, down(0, 1)), write(line(0, -1)), guarded(write(line(0, -1))), setting(write()), merging(api.MergeClamp, write(line(0, -1)))} {
				want = append(want, as(1, d.Next(), a))
				a.Head, a.Sure = head, yes
				issued(t, d, a, api.Loose, true, d.Next(), false)
			}
			same(t, "what was issued", d.Pending(), want)
		}
	}
}

func TestP13_2Full(t *testing.T) {
	d, _ := holder(t)
	full(t, d)
	refused := []api.Act{ask(down(0, 1)), give(down(0, 1)), give(down(0, 9)), pass(0, down(0, 9)), write(line(0, -1)), write(line(0, -9))}
	for _, a := range refused {
		notIssued(t, d, a, api.Sure, true, api.ErrDraftFull)
		notIssued(t, d, a, api.Loose, true, api.ErrDraftFull)
	}
	fencedAway(t, store(), d, 1)
	same(t, "with the yield there are", len(d.Pending()), api.MaxPending+1)
	for _, left := range []int{api.MaxPending + 1, api.MaxPending} {
		same(t, "pending", len(d.Pending()), left)
		for _, a := range refused {
			notIssued(t, d, a, api.Sure, true, api.ErrDraftFull)
		}
		mustTake(t, d, first(store(), d))
	}
	issued(t, d, ask(down(0, 1)), api.Loose, true, d.Next(), false)
	notIssued(t, d, ask(down(0, 1)), api.Loose, true, api.ErrDraftFull)
}

func TestP13_2NumbersEnd(t *testing.T) {
	d := draft.New(store(), 1)
	draft.AtNumber(d, api.MaxNumber-2)
	issued(t, d, ask(down(0, 1)), api.Loose, true, api.MaxNumber-1, false)
	issued(t, d, ask(down(0, 1)), api.Loose, true, api.MaxNumber, false)
	same(t, "Next", d.Next(), api.MaxNumber+1)
	for range 3 {
		notIssued(t, d, ask(down(0, 1)), api.Loose, true, api.ErrDraftFull)
		notIssued(t, d, write(line(0, -1)), api.Sure, true, api.ErrDraftFull)
		notIssued(t, d, give(down(0, 9)), api.Sure, true, api.ErrDraftFull)
		notIssued(t, d, ask(down(0, 0)), api.Loose, true, api.ErrActRight)
		if len(d.Pending()) > 0 {
			mustTake(t, d, first(store(), d))
		}
	}
}

// Whether a write is sure, by what it is, what the caller takes and whether the lease runs.
func TestP13_2Sure(t *testing.T) {
	good := []api.Act{
		write(line(0, -5)), write(line(0, -1)), write(line(0, 2)), write(line(1, 1)), write(line(0, -3), line(0, 2), line(0, -2), line(1, 1)),
	}
	bad := []api.Act{
		write(line(0, -6)), write(line(0, 3)), write(line(1, -1)), write(line(0, -3), line(0, -3)), write(line(0, -5), line(0, 3)), write(line(0, 2), line(1, 1), line(0, 1)),
		write(line(0, -api.MaxAmount)), guarded(write(line(0, -1))), setting(write(line(0, -1))), setting(write()),
		merging(api.MergeClamp, write(line(0, -1))), merging(api.MergeOther, write(line(0, -1)), line(0, -1)), merging(api.MergeForce, write(line(0, -1))),
	}
	for i, a := range append(good, bad...) {
		for _, runs := range []bool{true, false} {
			can := runs && i < len(good)
			d, _ := holder(t)
			for _, takes := range []int{api.Loose, -1, 3, math.MaxInt, math.MinInt} {
				issued(t, d, a, takes, runs, d.Next(), false)
			}
			if can {
				issued(t, d, a, api.Best, runs, 9, true)
				d, _ = holder(t)
				issued(t, d, a, api.Sure, runs, 4, true)
				same(t, "a sure write", d.Pending(), []api.Act{sure(as(1, 4, a))})
			} else {
				issued(t, d, a, api.Best, runs, 9, false)
				notIssued(t, d, a, api.Sure, runs, api.ErrDraftRights)
				same(t, "one that isn't", d.Pending()[5], as(1, 9, a))
			}
		}
	}
}

// Acts but writes are never sure, and are not asked whether the lease runs.
func TestP13_2OthersNotSure(t *testing.T) {
	for _, a := range []api.Act{ask(down(0, 30)), give(down(0, 5)), pass(2, up(0, 2))} {
		for _, takes := range []int{api.Loose, api.Best, api.Sure, 7} {
			for _, runs := range []bool{true, false} {
				d, _ := holder(t)
				issued(t, d, a, takes, runs, 4, false)
				same(t, "what was issued", d.Pending(), []api.Act{as(1, 4, a)})
			}
		}
	}
}

// What pending acts need is not available, to the last one.
func TestP13_2Rights(t *testing.T) {
	d, _ := holder(t)
	for _, x := range []api.Right{down(0, 6), up(0, 3), down(1, 1), up(1, 2), down(0, api.MaxAmount)} {
		notIssued(t, d, give(x), api.Loose, true, api.ErrDraftRights)
		notIssued(t, d, pass(0, x), api.Best, false, api.ErrDraftRights)
	}
	issued(t, d, write(line(0, -2)), api.Sure, true, 4, true)
	issued(t, d, write(line(0, -9)), api.Loose, true, 5, false)
	issued(t, d, ask(down(0, 9)), api.Loose, true, 6, false)
	available(t, d, 1, down(0, 3), up(0, 2), up(1, 1))
	notIssued(t, d, give(down(0, 4)), api.Loose, true, api.ErrDraftRights)
	issued(t, d, give(down(0, 1)), api.Loose, true, 7, false)
	notIssued(t, d, pass(2, down(0, 3)), api.Loose, true, api.ErrDraftRights)
	issued(t, d, pass(2, down(0, 1)), api.Loose, true, 8, false)
	notIssued(t, d, write(line(0, -2)), api.Sure, true, api.ErrDraftRights)
	issued(t, d, write(line(0, -1)), api.Best, true, 9, true)
	issued(t, d, write(line(0, -1)), api.Best, true, 10, false)
	available(t, d, 1, up(0, 2), up(1, 1))
	issued(t, d, give(up(0, 2)), api.Loose, false, 11, false)
	issued(t, d, pass(0, up(1, 1)), api.Loose, false, 12, false)
	available(t, d, 1)
	notIssued(t, d, give(up(0, 1)), api.Loose, false, api.ErrDraftRights)
	notIssued(t, d, pass(0, up(1, 1)), api.Loose, false, api.ErrDraftRights)
}

// W11 as far as a draft goes: one at a time, as many as there are, and then none.
func TestP13_2OneByOne(t *testing.T) {
	for _, n := range []int64{1, 2, 18} {
		d := draft.New(store(), 2)
		issued(t, d, ask(down(0, n)), api.Loose, false, 1, false)
		mustTake(t, d, first(store(), d))
		for i := range n {
			issued(t, d, write(line(0, -1)), api.Sure, true, uint64(i)+2, true)
		}
		notIssued(t, d, write(line(0, -1)), api.Sure, true, api.ErrDraftRights)
		for range n {
			e := first(store(), d)
			mustTake(t, d, e)
			same(t, "what became of it", []int{e.Outcome, len(e.Made)}, []int{api.Applied, 1})
		}
	}
}

func TestP13_3Put(t *testing.T) {
	d, _ := holder(t)
	acts := []api.Act{
		as(1, 4, sure(write(line(0, -2), line(0, 1)))), as(1, 5, guarded(setting(merging(api.MergeOther, write(line(0, -9)), line(0, -1))))),
		as(1, 6, give(down(0, 1))), as(1, 7, pass(0, down(0, 2))), as(1, 8, ask(down(0, 30))), as(1, 9, write(line(0, -5))),
	}
	for i, a := range acts {
		mustPut(t, d, a)
		same(t, "Pending", d.Pending(), acts[:i+1])
		same(t, "Next", d.Next(), a.Number+1)
	}
	available(t, d, 1, up(0, 1), up(1, 1))
}

func TestP13_3Order(t *testing.T) {
	d, _ := holder(t)
	for _, a := range []api.Act{
		as(1, 4, yield(1)), as(1, 4, yield(1, down(0, 1))), as(1, 4, api.Act{}),
		as(0, 4, ask(down(0, 1))), as(2, 4, ask(down(0, 1))), as(-1, 4, ask(down(0, 1))), as(3, 4, ask(down(0, 1))),
		as(1, 3, ask(down(0, 1))), as(1, 5, ask(down(0, 1))), as(1, 0, ask(down(0, 1))), as(1, math.MaxUint64, ask(down(0, 1))),
		as(1, 4, ask(down(0, 0))), as(1, 4, ask(down(2, 1))), as(1, 4, sure(ask(down(0, 1)))), as(1, 4, write()), as(1, 4, pass(1, down(0, 1))),
		as(1, 4, sure(guarded(write(line(0, -1))))), as(1, 4, sure(merging(api.MergeForce, write(line(0, -1))))), as(1, 4, api.Act{Kind: 6}),
		as(1, 5, give(down(0, 9))), as(0, 4, sure(write(line(0, -9)))), as(1, 4, sure(write(line(0, -9), line(2, 1)))),
	} {
		notPut(t, d, a, api.ErrDraftOrder)
	}
}

// A draft that is full is told behind an act out of order, ahead of rights.
func TestP13_3Full(t *testing.T) {
	d, _ := holder(t)
	full(t, d)
	next := d.Next()
	for range 2 {
		notPut(t, d, as(1, next, ask(down(0, 1))), api.ErrDraftFull)
		notPut(t, d, as(1, next, give(down(0, 9))), api.ErrDraftFull)
		notPut(t, d, as(1, next, sure(write(line(0, -9)))), api.ErrDraftFull)
		notPut(t, d, as(0, next, ask(down(0, 1))), api.ErrDraftOrder)
		notPut(t, d, as(1, next+1, ask(down(0, 1))), api.ErrDraftOrder)
		notPut(t, d, as(1, next, ask(down(0, 0))), api.ErrDraftOrder)
		notPut(t, d, as(1, next, yield(1)), api.ErrDraftOrder)
		if len(d.Pending()) == api.MaxPending {
			fencedAway(t, store(), d, 1)
			next++
		}
	}
	mustTake(t, d, first(store(), d))
	notPut(t, d, as(1, next, ask(down(0, 1))), api.ErrDraftFull)
	mustTake(t, d, first(store(), d))
	mustPut(t, d, as(1, next, ask(down(0, 1))))
}

func TestP13_3Rights(t *testing.T) {
	d, _ := holder(t)
	for _, a := range []api.Act{
		sure(write(line(0, -6))), sure(write(line(0, 3))), sure(write(line(1, -1))), sure(write(line(0, -3), line(0, -3))),
		give(down(0, 6)), give(down(1, 1)), pass(0, up(0, 3)), pass(0, up(1, 2)),
	} {
		notPut(t, d, as(1, 4, a), api.ErrDraftRights)
	}
	mustPut(t, d, as(1, 4, sure(write(line(0, -3)))))
	notPut(t, d, as(1, 5, give(down(0, 3))), api.ErrDraftRights)
	notPut(t, d, as(1, 5, sure(write(line(0, -3)))), api.ErrDraftRights)
	mustPut(t, d, as(1, 5, give(down(0, 2))))
	notPut(t, d, as(1, 6, pass(0, down(0, 1))), api.ErrDraftRights)
	mustPut(t, d, as(1, 6, write(line(0, -30)))) // needs nothing
}

func TestP13_3NumbersEnd(t *testing.T) {
	d := draft.New(store(), 1)
	draft.AtNumber(d, api.MaxNumber-1)
	mustPut(t, d, as(1, api.MaxNumber, ask(down(0, 1))))
	notPut(t, d, as(1, api.MaxNumber+1, ask(down(0, 1))), api.ErrDraftOrder)
	notPut(t, d, as(1, api.MaxNumber, ask(down(0, 1))), api.ErrDraftOrder)
}
