package server_test

import (
	"fmt"
	"testing"

	"till/act"
	"till/api"
	"till/book"
	"till/server"
)

func yield(till int, number, gen uint64, rights ...api.Right) api.Act {
	return api.Act{Head: api.Head{Till: till, Number: number}, Kind: api.ActYield, Gen: gen, Rights: rights}
}

func pass(till int, number uint64, to int, n int64) api.Act {
	return api.Act{Head: api.Head{Till: till, Number: number}, Kind: api.ActPass, Right: api.Right{N: n}, To: to}
}

// Right frames of any kind end a silence, others don't.
func TestP15_3Watch(t *testing.T) {
	for _, x := range []struct {
		name   string
		change func(f *api.Frame)
		ends   bool
	}{
		{"a word", func(f *api.Frame) {}, true},
		{"a body", func(f *api.Frame) { f.Seq, f.Body = 2, []byte("any") }, true},
		{"a body that is not the next", func(f *api.Frame) { f.Seq = 9 }, true},
		{"a body that was handed up", func(f *api.Frame) { f.Seq = 1 }, true},
		{"an ack of nothing that was sent", func(f *api.Frame) { f.Ack = 99 }, true},
		{"a word of a new life", func(f *api.Frame) { f.Mine = 2 }, true},
		{"a word of a new life to no life", func(f *api.Frame) { f.Mine, f.Yours = 2, 0 }, false},
		{"a word to no life", func(f *api.Frame) { f.Yours = 0 }, false},
		{"a word to another life", func(f *api.Frame) { f.Yours = 2 }, false},
		{"a word of another till", func(f *api.Frame) { f.From = 1 }, false},
		{"a word to another", func(f *api.Frame) { f.To = 1 }, false},
	} {
		for before := 1; before <= 5; before++ {
			r := newRig(t, conf(), emptyDisk(t))
			r.act(ask(0, 1, 3))
			r.tick(before)
			f := r.frame(0)
			x.change(&f)
			r.hears(f, api.OK)
			due := 6
			if !x.ends {
				due = 6 - before
			}
			r.tick(due - 1)
			r.length(1)
			r.tick(1)
			r.has(granted(1, ask(0, 1, 3), 3), fence(2, 0, 1))
			if t.Failed() {
				t.Fatal(x.name)
			}
		}
	}
	r := newRig(t, conf(), emptyDisk(t)) // a frame of a former life
	r.tills[0].life = 2
	r.act(ask(0, 1, 3))
	r.tick(5)
	r.tills[0].life = 1
	r.word(0)
	r.tick(1)
	r.length(2)
}

// While a till holds nothing it is not watched: what comes to it later begins its watch.
func TestP15_3HoldsNothing(t *testing.T) {
	r := newRig(t, conf(), emptyDisk(t))
	r.word(0)
	r.tick(20)
	r.length(0)
	r.act(ask(1, 1, 2))
	for range 20 {
		r.tick(1)
		r.word(1)
	}
	r.act(pass(1, 2, 0, 2)) // till 0 holds both now, and has said nothing of it
	r.tick(5)
	r.length(2)
	r.tick(1)
	r.length(3)
	if e := r.s.Log()[2]; text(e) != text(fence(3, 0, 1)) {
		t.Errorf("%+v", e)
	}
	r.tick(20)
	r.length(3)

	// A give leaves nothing, by a frame that ends the silence, too; what is asked for anew is watched anew.
	r = newRig(t, conf(), emptyDisk(t))
	r.act(ask(0, 1, 2))
	r.tick(5)
	r.act(api.Act{Head: api.Head{Till: 0, Number: 2}, Kind: api.ActGive, Right: api.Right{N: 2}})
	r.tick(50)
	r.length(2)
}

// Rights up count as rights down.
func TestP15_3RightsUp(t *testing.T) {
	r := newRig(t, conf(), emptyDisk(t))
	a := ask(1, 1, 1)
	a.Right.Way = api.Up
	r.act(a)
	r.tick(6)
	r.has(granted(1, a, 1), fence(2, 1, 1))
}

// A fence is told in its tick, on each open stream, the tills in their order.
func TestP15_3Fences(t *testing.T) {
	c := conf()
	c.Tills = 4
	r := newRig(t, c, emptyDisk(t))
	for _, till := range []int{3, 0, 1} {
		r.act(ask(till, 1, 1))
	}
	r.hello(3, 0)
	r.hello(2, 3)
	r.hello(1, 3)
	r.tick(5)
	r.word(1)
	r.tells(func(to int) bool { return to > 0 }, "1:1/2@4 1:2/2@5 2:1/1@4 2:2/1@5 3:4/2@4")
	entries := []api.Entry{granted(1, ask(3, 1, 1), 1), granted(2, ask(0, 1, 1), 1), granted(3, ask(1, 1, 1), 1), fence(4, 0, 1), fence(5, 3, 1)}
	r.has(entries...)
	r.tick(5)
	r.has(append(entries, fence(6, 1, 1))...)
	r.tick(30)
	r.length(6)
}

// Behind its yield a till that holds rights and is silent is fenced again.
func TestP15_3Generations(t *testing.T) {
	r := newRig(t, conf(), emptyDisk(t))
	number := uint64(0)
	next := func() uint64 { number++; return number }
	for gen := uint64(1); gen <= 5; gen++ {
		r.act(ask(0, next(), 2))
		r.tick(6)
		r.word(0)
		r.act(ask(0, next(), 1)) // granted behind the fence: while a yield is owed there is no other fence
		r.tick(20)
		if g := r.s.State(); g.Gen[0] != gen || !g.Owed[0] || g.Pools[0].Held[0] != [2]int64{3, 0} {
			t.Fatalf("generation %d: %+v", gen, g)
		}
		r.act(yield(0, next(), gen, api.Right{N: 2}))
		r.tick(5)
		if g := r.s.State(); g.Gen[0] != gen || g.Owed[0] || g.Pools[0].Held[0] != [2]int64{1, 0} {
			t.Fatalf("generation %d, behind its yield: %+v", gen, g)
		}
		r.act(api.Act{Head: api.Head{Till: 0, Number: next()}, Kind: api.ActGive, Right: api.Right{N: 1}})
	}
	r.act(ask(0, next(), 1))
	r.tick(6)
	r.act(yield(0, next(), 6)) // of nothing
	r.tick(5)
	length := len(r.s.Log())
	r.tick(1)
	r.length(length + 1)
	if g := r.s.State(); g.Gen[0] != 7 || !g.Owed[0] {
		t.Errorf("%+v", g)
	}
}

// atLength is a rig of three tills, each of which holds a right, and whose log has so many entries; fenced ones owe a yield.
func atLength(t *testing.T, n int, fenced ...int) *rig {
	t.Helper()
	c := conf()
	c.Tills = 3
	var entries []api.Entry
	for till := range c.Tills {
		entries = append(entries, granted(uint64(till)+1, ask(till, 1, 1), 1))
	}
	for _, till := range fenced {
		entries = append(entries, fence(uint64(len(entries))+1, till, 1))
	}
	entries = row(t, c, n, entries...)
	return newRig(t, c, written(t, append(parts(lifePart(1)), entryParts(t, c, entries)...)))
}

// There is no fence without room for the yields.
func TestP15_3RoomForYields(t *testing.T) {
	for _, x := range []struct {
		length int
		fenced []int
		want   []int
	}{
		{2042, nil, []int{0, 1, 2}},
		{2043, nil, []int{0, 1}},
		{2044, nil, []int{0, 1}},
		{2045, nil, []int{0}},
		{2046, nil, []int{0}},
		{2047, nil, nil},
		{2048, nil, nil},
		{2043, []int{0}, []int{1, 2}},
		{2044, []int{0}, []int{1}},
		{2045, []int{1}, []int{0}},
		{2046, []int{1}, nil},
		{2044, []int{0, 2}, []int{1}},
		{2045, []int{0, 2}, nil},
		{2045, []int{0, 1, 2}, nil},
	} {
		t.Run(fmt.Sprint(x.length, x.fenced), func(t *testing.T) {
			r := atLength(t, x.length, x.fenced...)
			want := r.s.Log()
			r.tick(5)
			r.has(want...)
			for _, till := range x.want {
				want = append(want, fence(uint64(len(want))+1, till, 1))
			}
			r.tick(1)
			r.has(want...)
			r.tick(10)
			r.has(want...)
			for till, owes := range r.s.State().Owed { // each that is owed finds its room
				if owes {
					r.act(yield(till, r.s.State().Last[till]+1, 1))
				}
			}
			if g := r.s.State(); g.Owed[0] || g.Owed[1] || g.Owed[2] {
				t.Errorf("owed: %+v", g.Owed)
			}
		})
	}
}

// In a full log acts do nothing, and are kept nowhere; a hello is answered.
func TestP15_2FullLog(t *testing.T) {
	r := atLength(t, api.MaxLog-1)
	last := r.s.State().Last[1]
	r.hello(1, api.MaxLog-1)
	r.act(ask(1, last+1, 1))
	r.length(api.MaxLog)
	before := files(t, r.d)
	r.act(ask(1, last+2, 1))
	r.act(ask(2, r.s.State().Last[2]+1, 1))
	r.tick(20)
	r.length(api.MaxLog)
	if files(t, r.d) != before {
		t.Errorf("the disk has changed")
	}
	r.hello(2, api.MaxLog-2)
	r.tells(func(to int) bool { return to == 2 }, "2:1/2@2047 2:2/2@2048")
	r.restart()
	r.length(api.MaxLog)
}

// What is refused makes it down for good: with the power off, and with a disk that was full for a moment.
func TestP15_4Down(t *testing.T) {
	for _, plan := range []api.Plan{{Off: 1}, {Off: 2}, {FullFrom: 1, FullTo: 1}} {
		r := newRig(t, conf(), emptyDisk(t))
		r.hello(0, 0)
		r.hello(1, 0)
		r.act(ask(0, 1, 3))
		log, state := text(r.s.Log()), text(r.s.State())
		r.d.Plan(plan)
		r.bytes(1, r.made(act.Body{Kind: act.BodyAct, Act: ask(1, 1, 1)}), api.ErrServerDown)
		r.d.Plan(api.Plan{})
		for range 10 {
			if out, errno := r.s.Tick(); len(out) != 0 || errno != api.ErrServerDown {
				t.Errorf("%+v: Tick: %v, %d", plan, out, errno)
			}
			r.hears(r.frame(0), api.ErrServerDown)
			if errno := r.s.Hear(nil); errno != api.ErrServerDown {
				t.Errorf("%+v: Hear of nothing: %d", plan, errno)
			}
		}
		if r.s.Life() != 1 || text(r.s.Log()) != log || text(r.s.State()) != state {
			t.Errorf("%+v: life %d, %+v, %+v", plan, r.s.Life(), r.s.Log(), r.s.State())
		}
	}
}

// What finds nothing to keep does not find the power off.
func TestP15_4OffUnseen(t *testing.T) {
	r := newRig(t, conf(), emptyDisk(t))
	r.d.Plan(api.Plan{Off: 1})
	r.hello(0, 0)
	r.ticks("0:word/1 1:word/0")
	r.d.SyncNames()
	r.word(0)
	r.ticks("0:word/1 1:word/0")
	r.bytes(0, r.made(act.Body{Kind: act.BodyAct, Act: ask(0, 1, 1)}), api.ErrServerDown)
}

// A refusal at the second of three fences: the first one stays kept and added, nothing is told.
func TestP15_3RefusedInTheMidst(t *testing.T) {
	for _, x := range []struct {
		plan   api.Plan
		fences int
		kept   []int // how many fences may be left
	}{
		{api.Plan{Off: 1}, 0, []int{0, 1}},
		{api.Plan{Off: 2}, 0, []int{0, 1}},
		{api.Plan{Off: 3}, 1, []int{1, 2}},
		{api.Plan{Off: 4}, 1, []int{1, 2}},
		{api.Plan{Off: 5}, 2, []int{2, 3}},
		{api.Plan{Off: 6}, 2, []int{2, 3}},
		{api.Plan{FullFrom: 1, FullTo: 9}, 0, []int{0}},
		{api.Plan{FullFrom: 3, FullTo: 3}, 1, []int{1}},
		{api.Plan{FullFrom: 4, FullTo: 5}, 2, []int{2}},
	} {
		c := conf()
		c.Tills = 3
		r := newRig(t, c, emptyDisk(t))
		var want []api.Entry
		for till := range 3 {
			r.hello(till, 0)
			r.act(ask(till, 1, 1))
			want = append(want, granted(uint64(till)+1, ask(till, 1, 1), 1))
		}
		r.tick(5)
		r.d.Plan(x.plan)
		if out, errno := r.s.Tick(); len(out) != 0 || errno != api.ErrServerDown {
			t.Fatalf("%+v: Tick: %v, %d", x.plan, out, errno)
		}
		all := append(want, fence(4, 0, 1), fence(5, 1, 1), fence(6, 2, 1))
		if g := r.s.Log(); text(g) != text(all[:3+x.fences]) || text(r.s.State()) != text(folded(t, c, g)) {
			t.Errorf("%+v: Log: %+v", x.plan, g)
		}
		for _, picks := range [][]int{nil, {0, 1}, {-1, -1}} {
			g, life, ok := server.Kept(c, left(t, r.d, picks...))
			if n := len(g) - 3; !ok || life != 1 || n < x.kept[0] || n > x.kept[len(x.kept)-1] || text(g) != text(all[:len(g)]) {
				t.Errorf("%+v, %v: Kept: %+v, %d, %v", x.plan, picks, g, life, ok)
			}
		}
	}
}

// A till that is heard among any Watch ticks is never fenced; one tick more, and it is.
func TestP15_8Heard(t *testing.T) {
	c := conf()
	for _, watch := range []int{5, 6, 17, 200, api.MaxTicks} {
		c.Watch, c.Beat = watch, 1
		r := newRig(t, c, emptyDisk(t))
		r.act(ask(0, 1, 3))
		for i := range 12 {
			r.tick(watch - 1 - i%3)
			r.word(0)
		}
		r.length(1)
		r.tick(watch - 1)
		r.length(1)
		r.tick(1)
		r.length(2)
	}
}

// What was told of a fence and its yield: rights come back by the yield alone.
func TestP15_3FenceTakesNothing(t *testing.T) {
	r := newRig(t, conf(), emptyDisk(t))
	r.act(ask(0, 1, 3))
	pools := text(r.s.State().Pools)
	r.tick(6)
	r.length(2)
	if g := r.s.State(); text(g.Pools) != pools || !book.Right(r.c, g) {
		t.Errorf("%+v", g)
	}
	sure := api.Act{Head: api.Head{Till: 0, Number: 2}, Kind: api.ActWrite, Sure: true, Lines: []api.Line{{Change: -1}}}
	r.act(sure)
	r.act(yield(0, 3, 1, api.Right{N: 2}))
	if g := r.s.Log(); g[2].Outcome != api.Applied || g[3].Outcome != api.Done {
		t.Errorf("%+v", g)
	}
	if g := r.s.State(); g.Pools[0].Value != 4 || g.Pools[0].Free != [2]int64{4, 5} {
		t.Errorf("%+v", g)
	}
}
