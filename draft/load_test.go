package draft_test

import (
	"testing"

	"till/api"
	"till/book"
	"till/draft"
)

// loaded holds what is loaded against what it must tell.
func loaded(t *testing.T, c api.Config, till int, entries []api.Entry, pending []api.Act) *draft.Draft {
	t.Helper()
	d, errno := draft.Load(c, till, entries, pending)
	if errno != api.OK || d == nil {
		t.Fatalf("Load(%+v, %+v): %d", entries, pending, errno)
	}
	s := book.First(c)
	for _, e := range entries {
		s, _ = book.Fold(c, s, e)
	}
	same(t, "Base of what is loaded", d.Base(), s)
	same(t, "Pending of what is loaded", d.Pending(), pending)
	return d
}

func notLoaded(t *testing.T, entries []api.Entry, pending []api.Act, want api.Errno) {
	t.Helper()
	if d, errno := draft.Load(store(), 1, entries, pending); d != nil || errno != want {
		t.Errorf("Load(%+v, %+v): %v, %d, want %d", entries, pending, d != nil, errno, want)
	}
}

func TestP13_4Load(t *testing.T) {
	same(t, "Load of nothing", told(loaded(t, store(), 1, nil, nil)), told(draft.New(store(), 1)))
	_, entries := holder(t)
	d := loaded(t, store(), 1, entries, []api.Act{as(1, 4, sure(write(line(0, -5)))), as(1, 5, ask(down(0, 1))), as(1, 6, give(up(0, 2)))})
	same(t, "Next", d.Next(), 7)
	available(t, d, 1, up(1, 1))
	// Another till's draft of the same entries: what is pending there is numbered by its own acts.
	d = loaded(t, store(), 2, entries, []api.Act{as(2, 1, write(line(0, -1)))})
	same(t, "Next", d.Next(), 2)
	available(t, d, 2)
}

func TestP13_4Entries(t *testing.T) {
	_, entries := holder(t)
	hurt := func(place int, spoil func(e *api.Entry)) []api.Entry {
		out := append([]api.Entry(nil), entries...)
		spoil(&out[place])
		return out
	}
	bad := []api.Act{as(0, 4, ask(down(0, 1)))} // an entry is told first
	for _, pending := range [][]api.Act{nil, bad} {
		notLoaded(t, entries[1:], pending, api.ErrBookOrder)
		notLoaded(t, append(entries[:2:2], entries[0]), pending, api.ErrBookOrder)
		notLoaded(t, hurt(0, func(e *api.Entry) { e.Position = 9 }), pending, api.ErrBookOrder)
		notLoaded(t, hurt(1, func(e *api.Entry) { e.Act.Number = 3 }), pending, api.ErrBookAct)
		notLoaded(t, hurt(2, func(e *api.Entry) { e.Act.Right.N = 0 }), pending, api.ErrBookAct)
		notLoaded(t, hurt(2, func(e *api.Entry) { e.N = 0 }), pending, api.ErrBookOutcome)
		notLoaded(t, append(entries[:3:3], api.Entry{Position: 4, Fence: 0, Gen: 2}), pending, api.ErrBookFence)
	}
	two := hurt(1, func(e *api.Entry) { e.Outcome = api.Done })
	two[2].Position = 7
	notLoaded(t, two, nil, api.ErrBookOutcome)
}

// Pending acts that are no yields are put, and refused as by Put.
func TestP13_4Pending(t *testing.T) {
	_, entries := holder(t)
	notLoaded(t, entries, []api.Act{as(1, 5, ask(down(0, 1)))}, api.ErrDraftOrder)
	notLoaded(t, entries, []api.Act{as(0, 4, ask(down(0, 1)))}, api.ErrDraftOrder)
	notLoaded(t, entries, []api.Act{as(1, 4, ask(down(0, 1))), as(1, 4, ask(down(0, 1)))}, api.ErrDraftOrder)
	notLoaded(t, entries, []api.Act{as(1, 4, ask(down(0, 0)))}, api.ErrDraftOrder)
	notLoaded(t, entries, []api.Act{as(1, 4, api.Act{})}, api.ErrDraftOrder)
	notLoaded(t, entries, []api.Act{as(1, 4, give(down(0, 6)))}, api.ErrDraftRights)
	notLoaded(t, entries, []api.Act{as(1, 4, give(down(0, 3))), as(1, 5, sure(write(line(0, -3))))}, api.ErrDraftRights)
	notLoaded(t, entries, []api.Act{as(1, 4, give(down(0, 6))), as(1, 9, ask(down(0, 1)))}, api.ErrDraftRights)
	notLoaded(t, nil, []api.Act{as(1, 1, sure(write(line(0, -1))))}, api.ErrDraftRights)
	var many []api.Act
	for i := range uint64(api.MaxPending) {
		many = append(many, as(1, 4+i, ask(down(0, 1))))
	}
	loaded(t, store(), 1, entries, many)
	notLoaded(t, entries, append(many, as(1, 68, ask(down(0, 1)))), api.ErrDraftFull)
	notLoaded(t, entries, append(many, as(1, 69, ask(down(0, 1)))), api.ErrDraftOrder)
	notLoaded(t, entries, append(many, as(1, 68, give(down(0, 9)))), api.ErrDraftFull)
}

// fencedHolder are the entries of the holder, with a fence of it at the end.
func fencedHolder(t *testing.T) []api.Entry {
	t.Helper()
	_, entries := holder(t)
	return append(entries, api.Entry{Position: 4, Fence: 1, Gen: 1})
}

func TestP13_4Yield(t *testing.T) {
	entries := fencedHolder(t)
	all := []api.Right{down(0, 5), up(0, 2), up(1, 1)}
	loaded(t, store(), 1, entries, []api.Act{as(1, 4, yield(1, all...))})
	loaded(t, store(), 1, entries, []api.Act{as(1, 4, yield(1))}) // not all that is available need be in it
	loaded(t, store(), 1, entries, []api.Act{as(1, 4, yield(1, down(0, 4), up(1, 1)))})
	loaded(t, store(), 1, entries, []api.Act{as(1, 4, give(down(0, 3))), as(1, 5, yield(1, down(0, 2), up(0, 2), up(1, 1))), as(1, 6, ask(down(0, 9)))})
	ahead := as(1, 4, sure(write(line(0, -5))))
	loaded(t, store(), 1, entries, []api.Act{ahead, as(1, 5, yield(1, up(0, 2), up(1, 1)))})
	for _, a := range []api.Act{
		as(0, 5, yield(1)), as(2, 5, yield(1)), as(1, 4, yield(1)), as(1, 6, yield(1)), as(1, 5, yield(2)), as(1, 5, yield(0)),
		as(1, 5, yield(1, up(1, 1), up(0, 2))), as(1, 5, yield(1, up(0, 0))), as(1, 5, yield(1, down(2, 1))), as(1, 5, sure(yield(1))),
		as(1, 5, yield(2, down(0, 9))), as(1, 6, yield(1, down(0, 9))),
	} {
		notLoaded(t, entries, []api.Act{ahead, a}, api.ErrDraftOrder)
	}
	for _, rights := range [][]api.Right{{down(0, 1)}, {up(0, 3)}, {up(0, 2), down(1, 1), up(1, 1)}, {up(0, 2), up(1, 2)}, {up(1, api.MaxHeld)}} {
		notLoaded(t, entries, []api.Act{ahead, as(1, 5, yield(1, rights...))}, api.ErrDraftRights)
	}
	notLoaded(t, entries, []api.Act{as(1, 4, yield(1)), as(1, 5, yield(1))}, api.ErrDraftOrder)
	notLoaded(t, entries, []api.Act{as(1, 4, yield(1)), as(1, 5, ask(down(0, 1))), as(1, 6, yield(1, down(0, 9)))}, api.ErrDraftOrder)
	// Behind the yield nothing but what it leaves is there.
	notLoaded(t, entries, []api.Act{as(1, 4, yield(1, down(0, 4))), as(1, 5, give(down(0, 2)))}, api.ErrDraftRights)
	loaded(t, store(), 1, entries, []api.Act{as(1, 4, yield(1, down(0, 4))), as(1, 5, give(down(0, 1)))})
}

// None is owed: there was no fence, another till's, or the yield has come already.
func TestP13_4YieldNotOwed(t *testing.T) {
	_, entries := holder(t)
	notLoaded(t, entries, []api.Act{as(1, 4, yield(1))}, api.ErrDraftOrder)
	others := append(entries[:3:3], api.Entry{Position: 4, Fence: 0, Gen: 1})
	notLoaded(t, others, []api.Act{as(1, 4, yield(1))}, api.ErrDraftOrder)
	loaded(t, store(), 1, others, nil)
	done := append(fencedHolder(t), api.Entry{Position: 5, Act: as(1, 4, yield(1, down(0, 5))), Outcome: api.Done})
	loaded(t, store(), 1, done, []api.Act{as(1, 5, give(up(0, 1)))})
	notLoaded(t, done, []api.Act{as(1, 5, yield(1))}, api.ErrDraftOrder)
	again := append(done, api.Entry{Position: 6, Fence: 1, Gen: 2})
	notLoaded(t, again, []api.Act{as(1, 5, yield(1))}, api.ErrDraftOrder)
	loaded(t, store(), 1, again, []api.Act{as(1, 5, yield(2, up(0, 2), up(1, 1)))})
}

// One that is owed must be pending.
func TestP13_4YieldMissing(t *testing.T) {
	entries := fencedHolder(t)
	notLoaded(t, entries, nil, api.ErrDraftOrder)
	notLoaded(t, entries, []api.Act{as(1, 4, ask(down(0, 1)))}, api.ErrDraftOrder)
	notLoaded(t, entries, []api.Act{as(1, 4, give(down(0, 9)))}, api.ErrDraftRights)
	var many []api.Act
	for i := range uint64(api.MaxPending) {
		many = append(many, as(1, 4+i, ask(down(0, 1))))
	}
	notLoaded(t, entries, many, api.ErrDraftOrder)
	loaded(t, store(), 1, entries, append(many, as(1, 68, yield(1, down(0, 5)))))
	notLoaded(t, entries, append(many, as(1, 68, yield(1, down(0, 6)))), api.ErrDraftRights)
	notLoaded(t, entries, append(many, as(1, 68, yield(1)), as(1, 69, ask(down(0, 1)))), api.ErrDraftFull)
	many[10] = as(1, 14, yield(1))
	loaded(t, store(), 1, entries, many)
	notLoaded(t, entries, append(many, as(1, 68, ask(down(0, 1)))), api.ErrDraftFull)
}

// A draft at its fullest, with a yield above the others, is loaded at each step; what is loaded goes on like it, to the end and behind it.
func TestP13_11AsItWas(t *testing.T) {
	c := store()
	d, entries := holder(t)
	issued(t, d, write(line(0, -2)), api.Sure, true, 4, true)
	issued(t, d, give(up(0, 1)), api.Loose, true, 5, false)
	full(t, d)
	take := func(e api.Entry) {
		t.Helper()
		l := loaded(t, c, 1, entries, d.Pending())
		same(t, "what is loaded", told(l), told(d))
		a, due, errno := d.Take(e)
		b, too, other := l.Take(e)
		same(t, "what it answers", []any{b, too, other}, []any{a, due, errno})
		same(t, "what goes on", told(l), told(d))
		entries = append(entries, e)
	}
	take(fence(t, c, d, 1))
	same(t, "pending", len(d.Pending()), api.MaxPending+1)
	for len(d.Pending()) > 0 {
		take(first(c, d))
	}
	same(t, "View in the end", d.View(), d.Base())
	take(fence(t, c, d, 1))
	same(t, "pending", len(d.Pending()), 1)
	take(first(c, d))
}
