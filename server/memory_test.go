package server_test

import (
	"bytes"
	"math/rand"
	"strings"
	"sync"
	"testing"

	"till/act"
	"till/api"
	"till/link"
	"till/server"
)

// fullConf has something in all its lists.
func fullConf() api.Config {
	c := conf()
	c.Counters = append(make([]api.Counter, 0, 9), c.Counters...)
	c.Prices = append(make([]api.Price, 0, 9), api.Price{Name: "box", Start: 250})
	return c
}

// fullWrite has something in most lists of an act.
func fullWrite(number uint64) api.Act {
	return api.Act{
		Head: api.Head{Till: 0, Number: number}, Kind: api.ActWrite,
		Lines:  []api.Line{{Change: -1}},
		Guards: []api.Guard{{Kind: api.GuardLeast, N: 1}},
		Sets:   []api.Set{{Version: -1, N: 7}},
		Merge:  api.Merge{Kind: api.MergeOther, Other: []api.Line{{Change: 1}}},
	}
}

func TestP15_6WhatIsHandedIn(t *testing.T) {
	c := fullConf()
	d := emptyDisk(t)
	r := newRig(t, c, d)
	if text(c) != text(fullConf()) {
		t.Errorf("Start has changed what it was given: %+v", c)
	}
	r.c = fullConf()
	clear(c.Counters[:9])
	clear(c.Prices[:9])
	r.hello(0, 0)
	r.act(fullWrite(1))
	r.length(1)
	if e := r.s.Log()[0]; e.Outcome != api.Applied || len(e.Made) != 1 || len(e.Sets) != 1 {
		t.Errorf("%+v", e)
	}

	f := r.frame(0)
	r.tills[0].said++
	f.Seq, f.Body = r.tills[0].said, r.made(act.Body{Kind: act.BodyAct, Act: fullWrite(2)})
	b := append(link.EncodeFrame(f), "spare"...)[:len(link.EncodeFrame(f))]
	if errno := r.s.Hear(b); errno != api.OK {
		t.Fatal(errno)
	}
	if !bytes.Equal(b, link.EncodeFrame(f)) || string(b[len(b):len(b)+5]) != "spare" {
		t.Errorf("Hear has changed what it was given: %x", b)
	}
	want := text(r.s.Log())
	for i := range b {
		b[i] = 0xee
	}
	if g := text(r.s.Log()); g != want {
		t.Errorf("Log: %s, want %s", g, want)
	}
	r.ticks("0:1/3@1 0:2/3@2 1:word/0")
	before := fullConf()
	if server.Kept(before, d); text(before) != text(fullConf()) {
		t.Errorf("Kept has changed what it was given: %+v", before)
	}
}

// spoil fills a list and its spare room with something else.
func spoil[T any](list []T, x T) {
	list = list[:cap(list)]
	for i := range list {
		list[i] = x
	}
}

func spoilEntry(e api.Entry) {
	spoil(e.Act.Lines, api.Line{Counter: 9, Change: 99})
	spoil(e.Act.Guards, api.Guard{Kind: 9})
	spoil(e.Act.Sets, api.Set{N: 99})
	spoil(e.Act.Merge.Other, api.Line{Counter: 9, Change: 99})
	spoil(e.Act.Rights, api.Right{N: 99})
	spoil(e.Made, api.Line{Counter: 9, Change: 99})
	spoil(e.Sets, api.Set{N: 99})
}

func spoilLog(l []api.Entry) {
	for _, e := range l {
		spoilEntry(e)
	}
	spoil(l, api.Entry{Position: 99})
}

func spoilState(s api.State) {
	for _, p := range s.Pools {
		spoil(p.Held, [2]int64{9, 9})
	}
	spoil(s.Pools, api.Pool{Value: 99})
	spoil(s.Prices, api.Priced{Price: 99})
	spoil(s.Last, 99)
	spoil(s.Gen, 99)
	spoil(s.Owed, true)
}

func TestP15_6WhatIsAnswered(t *testing.T) {
	r := newRig(t, fullConf(), emptyDisk(t))
	r.hello(0, 0)
	r.hello(1, 0)
	r.act(fullWrite(1))
	r.act(fullWrite(2))
	r.act(ask(1, 1, 2))
	r.act(yield(1, 2, 1, api.Right{N: 1}))
	log, state := text(r.s.Log()), text(r.s.State())
	spoilLog(r.s.Log())
	spoilState(r.s.State())
	kept, _, _ := server.Kept(r.c, r.d)
	spoilLog(kept)
	if text(r.s.Log()) != log || text(r.s.State()) != state {
		t.Errorf("%+v, %+v", r.s.Log(), r.s.State())
	}
	if kept, _, _ = server.Kept(r.c, r.d); text(kept) != log {
		t.Errorf("Kept: %+v", kept)
	}

	out, _ := r.s.Tick() // two tills are told the same entries
	var want []string
	for _, m := range out {
		want = append(want, string(m.Bytes))
	}
	if len(out) != 8 {
		t.Fatalf("%d flights", len(out))
	}
	for i, m := range out {
		if string(m.Bytes) != want[i] {
			t.Errorf("flight %d shares its memory", i)
		}
		spoil(m.Bytes, 0xee)
	}
	spoil(out, api.Flight{To: 9})
	r.ticks("0:1/3@1 0:2/3@2 0:3/3@3 0:4/3@4 1:1/3@1 1:2/3@2 1:3/3@3 1:4/3@4")
}

// Servers with disks of their own have nothing in common: each goes on as it does alone.
func TestP15_6SideBySide(t *testing.T) {
	var group sync.WaitGroup
	logs := make([]string, 6)
	for i := range logs {
		group.Go(func() {
			w := chance{rand.New(rand.NewSource(int64(i % 2)))}.world(t)
			for range 400 {
				w.step()
			}
			logs[i] = text(w.s.Log()) + text(w.s.State())
		})
	}
	group.Wait()
	for i, log := range logs {
		if log != logs[i%2] {
			t.Errorf("%d: %s", i, log)
		}
	}
}

// What is no server that was started takes all calls, and does nothing.
func TestP15_6WhateverIsGiven(t *testing.T) {
	var none server.Server
	frames := [][]byte{nil, []byte("no frame"), bytes.Repeat([]byte{0xff}, 1<<16)}
	for from := range 3 {
		for to := range 3 {
			frames = append(frames, link.EncodeFrame(api.Frame{From: from, To: to, Mine: 1, Yours: 1, Seq: 1, Body: []byte(strings.Repeat("x", 9))}))
		}
	}
	for _, b := range frames {
		if errno := none.Hear(b); errno != api.OK {
			t.Errorf("Hear(%x): %d", b, errno)
		}
	}
	if out, errno := none.Tick(); len(out) != 0 || errno != api.OK {
		t.Errorf("Tick: %v, %d", out, errno)
	}
	if none.Life() != 0 || len(none.Log()) != 0 || none.State().Position != 0 {
		t.Errorf("%d, %v, %v", none.Life(), none.Log(), none.State())
	}
}
