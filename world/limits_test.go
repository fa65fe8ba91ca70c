package world_test

import (
	"testing"

	"till/api"
)

// W11: who asks for q and is told so answers q writes of one as sure, without a word from anybody, and then none.
func TestP17_2Rights(t *testing.T) {
	for q := int64(1); q <= api.MaxPending-1; q += 2 {
		for way := range 2 {
			c := conf()
			c.Counters[0] = api.Counter{Name: "tea", Hi: 130, Start: 65}
			r := newRig(t, c)
			r.rounds(5)
			r.do(0, ask(api.Right{Way: way, N: q}), api.Loose, 1, false)
			r.rounds(5)
			r.crash(srv)
			a := write([]int64{-1, 1}[way])
			for i := range q {
				r.do(0, a, api.Sure, uint64(i)+2, true)
			}
			r.refuses(api.Event{Kind: api.EventDo, Act: a, Takes: api.Sure}, api.ErrDraftRights)
			r.settles()
			if g := r.State().Pools[0].Value; g != 65+q*a.Lines[0].Change {
				t.Errorf("%d rights: %d", q, g)
			}
		}
	}
}

// A log that is full takes no act any more, and no fence; all else goes on. The nodes' journals have had their checkpoints.
func TestP17_6FullLog(t *testing.T) {
	c := conf()
	c.Window, c.Flight = 16, 1000
	r := newRig(t, c)
	r.rounds(5)
	for number := uint64(1); number <= api.MaxLog-8; number++ {
		r.do(0, write(1-2*int64(number%2)), api.Loose, number, false)
		if number%20 == 0 {
			r.rounds(5)
		}
		if number == 1000 {
			r.crash(0)
			r.crash(srv)
			r.restart(srv)
			r.restart(0)
		}
	}
	for number := uint64(1); number <= 8; number++ {
		r.do(1, ask(down(1)), api.Loose, number, false)
	}
	r.rounds(12)
	if len(r.Log()) != api.MaxLog || r.State().Pools[0].Held[1][api.Down] == 0 {
		t.Fatalf("%d entries, %+v", len(r.Log()), r.State())
	}
	log := text(r.Log())
	r.do(0, write(-1), api.Loose, r.State().Last[0]+1, false)
	for range c.Watch + 9 { // till 1 is silent, and holds rights
		r.flush()
		r.tick(0, srv)
	}
	r.rounds(40)
	if text(r.Log()) != log || len(r.Pending(0)) != 1 || len(r.Taken(0)) != api.MaxLog || r.View(0).Position != api.MaxLog+1 {
		t.Errorf("%d entries, %d pending, %d taken", len(r.Log()), len(r.Pending(0)), len(r.Taken(0)))
	}
	for n := range 3 {
		before := r.kept()
		r.crash(n)
		if r.kept() != before {
			t.Errorf("node %d keeps something else", n)
		}
		r.restart(n)
		if r.kept() != before {
			t.Errorf("node %d has something else", n)
		}
	}
}

// Behind many lives all is as it was.
func TestP17_7ManyLives(t *testing.T) {
	r := newRig(t, conf())
	r.rounds(5)
	r.do(0, ask(down(3)), api.Loose, 1, false)
	r.do(0, write(-1), api.Loose, 2, false)
	r.rounds(5)
	r.do(0, write(1), api.Loose, 3, false)
	before := r.kept()
	for n := range 3 {
		for life := uint64(2); life <= 2*api.MaxRecords+3; life++ {
			r.crash(n, int(life), -1)
			r.restart(n)
			if r.Life(n) != life {
				t.Fatalf("node %d: life %d, want %d", n, r.Life(n), life)
			}
		}
	}
	if g := r.kept(); g != before {
		t.Errorf("%s\nwas %s", g, before)
	}
	r.settles()
	if g := len(r.Log()); g != 3 {
		t.Errorf("%d entries", g)
	}
}
