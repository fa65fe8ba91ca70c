package world_test

import (
	"math"
	"testing"

	"till/api"
	"till/world"
)

// spoil fills a list and its spare room with something else.
func spoil[T any](list []T, x T) {
	list = list[:cap(list)]
	for i := range list {
		list[i] = x
	}
}

func spoilAct(a api.Act) {
	spoil(a.Lines, api.Line{Counter: 9, Change: 99})
	spoil(a.Guards, api.Guard{Kind: 9})
	spoil(a.Sets, api.Set{N: 99})
	spoil(a.Merge.Other, api.Line{Counter: 9, Change: 99})
	spoil(a.Rights, api.Right{N: 99})
}

func spoilActs(l []api.Act) {
	for _, a := range l {
		spoilAct(a)
	}
	spoil(l, api.Act{Kind: 9})
}

func spoilEntries(l []api.Entry) {
	for _, e := range l {
		spoilAct(e.Act)
		spoil(e.Made, api.Line{Counter: 9, Change: 99})
		spoil(e.Sets, api.Set{N: 99})
	}
	spoil(l, api.Entry{Position: 99})
}

func spoilState(s api.State) {
	for _, p := range s.Pools {
		spoil(p.Held, [2]int64{9, 9})
	}
	spoil(s.Pools, api.Pool{Value: 99})
	spoil(s.Prices, api.Priced{Price: 99})
	spoil(s.Last, 99)
	spoil(s.Gen, 99)
	spoil(s.Owed, true)
}

// fullConf has spare room in its lists, and a price.
func fullConf() api.Config {
	c := conf()
	c.Counters = append(make([]api.Counter, 0, 9), c.Counters...)
	c.Prices = append(make([]api.Price, 0, 9), api.Price{Name: "tea", Start: 250})
	return c
}

// fullWrite has something in each list that a write may have.
func fullWrite() api.Act {
	return api.Act{
		Kind:   api.ActWrite,
		Lines:  append(make([]api.Line, 0, 5), api.Line{Change: -1}),
		Guards: append(make([]api.Guard, 0, 5), api.Guard{Kind: api.GuardLeast, N: 1}),
		Sets:   append(make([]api.Set, 0, 5), api.Set{Version: -1, N: 7}),
		Merge:  api.Merge{Kind: api.MergeOther, Other: append(make([]api.Line, 0, 5), api.Line{Change: 1})},
	}
}

func TestP17_5WhatIsHandedIn(t *testing.T) {
	c := fullConf()
	r := newRig(t, c)
	if text(c) != text(fullConf()) {
		t.Errorf("New has changed what it was given: %+v", c)
	}
	spoil(c.Counters, api.Counter{Name: "X", Lo: 1, Hi: 0})
	spoil(c.Prices, api.Price{Start: -9})
	r.c = fullConf()
	r.holds(0, nil)
	r.logs()

	a := fullWrite()
	r.do(0, a, api.Best, 1, false)
	if text(a) != text(fullWrite()) || a.Lines[:5][4] != (api.Line{}) {
		t.Errorf("EventDo has changed what it was given: %+v", a)
	}
	spoilAct(a)
	r.holds(0, nil, as(0, 1, fullWrite()))

	b := append(make([]byte, 0, 9), 7, 8, 9)
	r.plays(api.Event{Kind: api.EventInject, Node: 1, Bytes: b}, api.Told{})
	spoil(b, 0xee)
	if g := r.Flights(); text(g) != text([]api.Flight{{To: 1, Bytes: []byte{7, 8, 9}}}) {
		t.Errorf("what was injected is %+v", g)
	}
	r.deliver(0)

	picks := []int{-1, 5, -3}
	r.crash(1, picks...)
	r.plays(api.Event{Kind: api.EventDo, Node: 0, Act: write(-1), Off: 2, Picks: picks}, api.Told{})
	if text(picks) != "[-1 5 -3]" {
		t.Errorf("the picks are %v now", picks)
	}
	before := r.all()
	spoil(picks, 77)
	if g := r.all(); g != before {
		t.Errorf("the picks are kept: %s\nwas %s", g, before)
	}
	r.restart(0)
	r.restart(1)
	r.rounds(9)
	r.logs(r.row(as(0, 1, fullWrite()))...)
}

// spoilAll overwrites all that a world answers.
func (r *rig) spoilAll() {
	for _, m := range r.Flights() {
		spoil(m.Bytes, 0xee)
	}
	spoil(r.Flights(), api.Flight{To: 99})
	spoilEntries(r.Log())
	spoilState(r.State())
	for n := -1; n <= r.c.Tills+1; n++ {
		spoilEntries(r.Taken(n))
		spoilActs(r.Pending(n))
		spoilState(r.Base(n))
		spoilState(r.View(n))
	}
}

func TestP17_5WhatIsAnswered(t *testing.T) {
	r := newRig(t, fullConf())
	r.rounds(5)
	r.do(0, ask(down(2)), api.Loose, 1, false)
	r.do(0, fullWrite(), api.Loose, 2, false)
	r.rounds(5)
	r.do(0, fullWrite(), api.Loose, 3, false)
	r.do(1, fullWrite(), api.Loose, 1, false)
	r.tick(0, 1, srv)
	for n := range 4 { // all up, then one more down at each turn
		before := r.all()
		r.spoilAll()
		if g := r.all(); g != before {
			t.Fatalf("it is %s\nwas %s", g, before)
		}
		if n < 3 {
			r.crash(n)
		}
	}
	if len(r.Log()) != 2 || len(r.Pending(0)) != 1 || r.Len() == 0 {
		t.Errorf("too little was looked at: %s", r.all())
	}
	r.settles()
}

// No two lists of an answer share anything: what is laid behind the one doesn't come into another.
func TestP17_5NoTwoShare(t *testing.T) {
	r := newRig(t, fullConf())
	r.rounds(5)
	for n := range uint64(3) {
		r.do(0, fullWrite(), api.Loose, n+1, false)
	}
	r.tick(0, srv)
	check := func() {
		t.Helper()
		flights, want := r.Flights(), text(r.Flights()[1:])
		spoil(flights[0].Bytes, 0xee)
		if text(flights[1:]) != want {
			t.Errorf("flights share their bytes")
		}
		pending, wanted := r.Pending(0), text(r.Pending(0)[1:])
		spoilAct(pending[0])
		if text(pending[1:]) != wanted {
			t.Errorf("acts share their lists")
		}
	}
	check()
	r.crash(0)
	check()
}

// Two worlds have nothing in common: each goes on as it would alone.
func TestP17_5TwoWorlds(t *testing.T) {
	script := func(r *rig, part int) {
		t.Helper()
		switch part {
		case 0:
			r.rounds(5)
			r.do(0, ask(down(2)), api.Loose, 1, false)
		case 1:
			r.rounds(5)
			r.do(0, write(-1), api.Sure, 2, true)
			r.crash(1)
		case 2:
			r.plays(api.Event{Kind: api.EventDo, Node: 0, Act: write(-1), Off: 1}, api.Told{})
			r.restart(1)
			r.rounds(3)
		}
	}
	alone, one, two := newRig(t, conf()), newRig(t, conf()), newRig(t, conf())
	two.rounds(3)
	two.crash(srv)
	for part := range 3 {
		script(alone, part)
		script(one, part)
		if one.all() != alone.all() {
			t.Fatalf("%s\nwant %s", one.all(), alone.all())
		}
		two.do(1, write(-1), api.Loose, uint64(part)+1, false)
		two.plays(api.Event{Kind: api.EventInject, Node: part, Bytes: []byte{1}}, api.Told{})
	}
	if len(two.Log()) != 0 || len(two.Pending(1)) != 3 {
		t.Errorf("%s", two.all())
	}
}

// Whatever an event has in its fields, Step ends.
func TestP17_5Whatever(t *testing.T) {
	numbers := []int{0, 1, 2, 3, -1, math.MinInt, math.MaxInt}
	r := newRig(t, conf())
	for kind := -1; kind <= 9; kind++ {
		for _, n := range numbers {
			for _, off := range numbers {
				e := api.Event{Kind: kind, Index: n, Node: n, Takes: n, Off: off, Picks: []int{off, n}}
				e.Act = api.Act{Head: api.Head{Till: n, Number: 5}, Kind: n, To: n, Lines: []api.Line{{Counter: n, Change: int64(off)}}}
				r.Step(e)
				r.Step(api.Event{Kind: api.EventTick, Node: srv})
				r.Step(api.Event{Kind: api.EventRestart, Node: n})
			}
		}
	}
	r.rounds(2)
}

// A world that was not made by New has no node: no event can be, and there is nothing to tell.
func TestP17_5NoWorld(t *testing.T) {
	var none world.World
	for kind := -1; kind <= 9; kind++ {
		if told, errno := none.Step(api.Event{Kind: kind}); told != (api.Told{}) || errno != api.ErrWorldEvent {
			t.Errorf("kind %d: %+v, %d", kind, told, errno)
		}
	}
	if none.Up(0) || none.Life(0) != 0 || len(none.Flights()) != 0 || len(none.Log()) != 0 || len(none.Taken(0)) != 0 || len(none.Pending(0)) != 0 {
		t.Errorf("it tells something")
	}
	if text([]any{none.State(), none.Base(0), none.View(0)}) != text([]any{api.State{}, api.State{}, api.State{}}) {
		t.Errorf("%+v, %+v", none.State(), none.Base(0))
	}
}
