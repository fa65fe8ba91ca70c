package shop_test

import (
	"fmt"
	"math"
	"testing"

	"till/api"
)

// spoil fills a list and its spare room with something else.
func spoil[T any](list []T, x T) {
	list = list[:cap(list)]
	for i := range list {
		list[i] = x
	}
}

func spoilAct(a api.Act) {
	spoil(a.Lines, api.Line{Counter: 9, Change: 99})
	spoil(a.Guards, api.Guard{Kind: 9})
	spoil(a.Sets, api.Set{N: 99})
	spoil(a.Merge.Other, api.Line{Counter: 9, Change: 99})
	spoil(a.Rights, api.Right{N: 99})
}

func spoilActs(l []api.Act) {
	for _, a := range l {
		spoilAct(a)
	}
	spoil(l, api.Act{Kind: 9})
}

func spoilEntries(l []api.Entry) {
	for _, e := range l {
		spoilAct(e.Act)
		spoil(e.Made, api.Line{Counter: 9, Change: 99})
		spoil(e.Sets, api.Set{N: 99})
	}
	spoil(l, api.Entry{Position: 99})
}

func spoilState(s api.State) {
	for _, p := range s.Pools {
		spoil(p.Held, [2]int64{9, 9})
	}
	spoil(s.Pools, api.Pool{Value: 99})
	spoil(s.Prices, api.Priced{Price: 99})
	spoil(s.Last, 99)
	spoil(s.Gen, 99)
	spoil(s.Owed, true)
}

// roomy has spare room in its lists.
func roomy() api.Config {
	c := store()
	c.Counters = append(make([]api.Counter, 0, 9), c.Counters...)
	c.Prices = append(make([]api.Price, 0, 9), c.Prices...)
	return c
}

// fullWrite has something in each list that a write may have.
func fullWrite() api.Act {
	return api.Act{
		Kind:   api.ActWrite,
		Lines:  append(make([]api.Line, 0, 5), api.Line{Change: -4}),
		Guards: append(make([]api.Guard, 0, 5), api.Guard{Kind: api.GuardLeast, N: 1}),
		Sets:   append(make([]api.Set, 0, 5), api.Set{Version: -1, N: 7}),
		Merge:  api.Merge{Kind: api.MergeOther, Other: append(make([]api.Line, 0, 5), api.Line{Change: 1})},
	}
}

func TestP20_5WhatIsHandedIn(t *testing.T) {
	c := roomy()
	r := newRig(t, c)
	if show(c) != show(roomy()) || c.Counters[:9][8] != (api.Counter{}) || c.Prices[:9][8] != (api.Price{}) {
		t.Errorf("New has changed what it was given: %+v", c)
	}
	spoil(c.Counters, api.Counter{Name: "X", Lo: 1, Hi: 0})
	spoil(c.Prices, api.Price{Name: "X", Start: -9})
	r.c = roomy()
	fresh := newRig(t, roomy())
	if r.all() != fresh.all() {
		t.Errorf("the configuration is kept: %s", r.all())
	}

	a := fullWrite()
	r.plays(do(0, a, api.Best), "act 0 1 tentative")
	if show(a) != show(fullWrite()) || a.Lines[:5][4] != (api.Line{}) {
		t.Errorf("Step has changed what it was given: %+v", a)
	}
	spoilAct(a)
	fresh.plays(do(0, fullWrite(), api.Best), "act 0 1 tentative")

	b := append(make([]byte, 0, 9), 7, 8, 9)
	r.plays(api.Event{Kind: api.EventInject, Node: 1, Bytes: b})
	fresh.plays(api.Event{Kind: api.EventInject, Node: 1, Bytes: []byte{7, 8, 9}})
	if show(b) != "[7 8 9]" {
		t.Errorf("the bytes are %v now", b)
	}
	spoil(b, 0xee)

	picks := []int{-1, 5, -3}
	e := do(2, write(-1), api.Loose)
	e.Off, e.Picks = 2, picks
	r.plays(e)
	e.Picks = []int{-1, 5, -3}
	fresh.plays(e)
	if show(picks) != "[-1 5 -3]" {
		t.Errorf("the picks are %v now", picks)
	}
	spoil(picks, 77)
	for _, x := range []*rig{r, fresh} {
		x.says("close 0")
		x.says("restart 2")
		x.rounds(9)
	}
	if r.all() != fresh.all() {
		t.Errorf("%s\nwant %s", r.all(), fresh.all())
	}
	r.says("advise 0", "Tea 4", "CAFÉ 0", "x.y_z-1 0")
}

// spoilAll overwrites all that a shop answers.
func (r *rig) spoilAll() {
	for _, line := range []string{"state", "nodes", "flights", "log", "sum", "check", "view 0", "report 0", "advise 0", "view 1", "report 1", "advise 1"} {
		spoil(r.tells(line), "spoilt")
	}
	spoilEntries(r.Log())
	spoilState(r.State())
	for till := -1; till <= r.c.Tills+1; till++ {
		spoilActs(r.Pending(till))
		spoilState(r.Base(till))
		spoilState(r.View(till))
	}
}

func TestP20_5WhatIsAnswered(t *testing.T) {
	r := newRig(t, store())
	r.rounds(5)
	r.says("want 0 tea 2 down", "act 0 1")
	r.plays(do(0, fullWrite(), api.Loose), "act 0 2 tentative")
	r.rounds(5)
	for i := range 2 {
		told, _ := r.Step(do(0, fullWrite(), api.Loose))
		spoil(told, "spoilt")
		told = r.tells(fmt.Sprint("sale ", i, " tea 1"))
		spoil(told, "spoilt")
	}
	r.says("tick 0")
	r.says("tick server")
	r.says("close 0")
	for _, node := range []string{"0", "1", "2", "server", ""} { // all up, then one more down at each turn
		before := r.all()
		r.spoilAll()
		if now := r.all(); now != before {
			t.Fatalf("it is %s\nwas %s", now, before)
		}
		if node != "" {
			r.says("crash " + node)
		}
	}
	if len(r.Log()) != 2 || len(r.Pending(0)) != 3 || r.onWay() == 0 {
		t.Errorf("too little was looked at: %s", r.all())
	}
}

// No two lists of an answer share anything.
func TestP20_5NoTwoShare(t *testing.T) {
	r := newRig(t, store())
	r.rounds(5)
	for range 3 {
		r.plays(do(0, fullWrite(), api.Loose), fmt.Sprintf("act 0 %d tentative", len(r.Pending(0))+len(r.Log())+1))
	}
	pending, want := r.Pending(0), show(r.Pending(0)[1:])
	spoilAct(pending[0])
	if show(pending[1:]) != want {
		t.Errorf("acts share their lists")
	}
	r.rounds(9)
	log, want := r.Log(), show(r.Log()[1:])
	spoilEntries(log[:1:1])
	if show(log[1:]) != want {
		t.Errorf("entries share their lists")
	}
	state, want := r.State(), show(r.State().Pools[1:])
	spoil(state.Pools[0].Held, [2]int64{9, 9})
	if show(state.Pools[1:]) != want {
		t.Errorf("pools share their lists")
	}
	base, view := r.Base(0), r.View(0)
	spoilState(base)
	if show(view) != show(r.View(0)) {
		t.Errorf("base and view share their lists")
	}
}

// Two shops have nothing in common: each goes on as it would alone.
func TestP20_5TwoShops(t *testing.T) {
	script := func(r *rig, part int) {
		t.Helper()
		switch part {
		case 0:
			r.rounds(5)
			r.says("want 0 tea 2 down", "act 0 1")
			r.says("sale 0 tea 7 loose", "act 0 2 tentative")
		case 1:
			r.rounds(5)
			r.says("close 0")
			r.says("sale 0 tea 1 sure", "act 0 3 sure")
			r.says("crash 1")
		case 2:
			r.says("advise 0", "Tea 6", "CAFÉ 0", "x.y_z-1 0")
			r.says("restart 1")
			r.rounds(3)
			r.says("close 0")
		}
	}
	c := roomy()
	alone, one, two := newRig(t, store()), newRig(t, c), newRig(t, c)
	two.rounds(3)
	two.says("crash server")
	for part := range 3 {
		script(alone, part)
		script(one, part)
		if one.all() != alone.all() {
			t.Fatalf("%s\nwant %s", one.all(), alone.all())
		}
		two.says("sale 0 tea 9", fmt.Sprintf("act 0 %d tentative", part+1))
		two.says("close 1")
		two.plays(api.Event{Kind: api.EventInject, Node: part, Bytes: []byte{1}})
	}
	two.says("advise 0", "Tea 0", "CAFÉ 0", "x.y_z-1 0")
	two.says("close 0")
	two.says("advise 0", "Tea 27", "CAFÉ 0", "x.y_z-1 0")
	if len(two.Log()) != 0 || len(two.Pending(0)) != 3 {
		t.Errorf("%s", two.all())
	}
}

// Whatever an event has in its fields, Step ends.
func TestP20_5Whatever(t *testing.T) {
	numbers := []int{0, 1, 2, 3, -1, math.MinInt, math.MaxInt}
	r := newRig(t, conf())
	for kind := -1; kind <= 9; kind++ {
		for _, n := range numbers {
			for _, off := range numbers {
				e := api.Event{Kind: kind, Index: n, Node: n, Takes: n, Off: off, Picks: []int{off, n}}
				e.Act = api.Act{Head: api.Head{Till: n, Number: 5}, Kind: n, To: n, Lines: []api.Line{{Counter: n, Change: int64(off)}}}
				r.Step(e)
				r.Step(api.Event{Kind: api.EventTick, Node: 2})
				r.Step(api.Event{Kind: api.EventRestart, Node: n})
			}
		}
	}
	r.rounds(2)
	r.says("check", "fine")
}

// Of the same lines and events all is the same.
func TestP20_5TheSame(t *testing.T) {
	script := []string{"want 0 tea 3 down", "tick server", "deliver 0", "deliver 0", "tick 0", "tick 1", "deliver 1", "deliver 0", "sale 1 tea 2", "tick server", "deliver 1", "double 0", "sale 0 tea 1 café 2", "crash 0", "restart 0", "close 0", "advise 0"}
	one, two := newRig(t, store()), newRig(t, store())
	for range 20 {
		for _, line := range script {
			got, errno := one.Say(line)
			want, wanted := two.Say(line)
			if show(got) != show(want) || errno != wanted {
				t.Fatalf("%q: %q, %d, want %q, %d", line, got, errno, want, wanted)
			}
		}
	}
	if one.all() != two.all() {
		t.Errorf("%s\nwant %s", one.all(), two.all())
	}
}
