package device_test

import (
	"bytes"
	"math/rand"
	"strings"
	"sync"
	"testing"

	"till/act"
	"till/api"
	"till/device"
	"till/link"
)

func frameBytes(t *testing.T, f api.Frame) []byte {
	t.Helper()
	b := link.EncodeFrame(f)
	if len(b) == 0 {
		t.Fatalf("%+v is no frame", f)
	}
	return b
}

// fullConf has spare room in its lists.
func fullConf() api.Config {
	c := conf()
	c.Counters = append(make([]api.Counter, 0, 9), c.Counters...)
	c.Prices = append(make([]api.Price, 0, 9), c.Prices...)
	return c
}

// fullWrite has something in most lists of an act.
func fullWrite() api.Act {
	return api.Act{
		Kind:   api.ActWrite,
		Lines:  append(make([]api.Line, 0, 5), api.Line{Change: -1}),
		Guards: append(make([]api.Guard, 0, 5), api.Guard{Kind: api.GuardLeast, N: 1}),
		Sets:   append(make([]api.Set, 0, 5), api.Set{Version: -1, N: 7}),
		Merge:  api.Merge{Kind: api.MergeOther, Other: append(make([]api.Line, 0, 5), api.Line{Change: 1})},
	}
}

// spoil fills a list and its spare room with something else.
func spoil[T any](list []T, x T) {
	list = list[:cap(list)]
	for i := range list {
		list[i] = x
	}
}

func spoilAct(a api.Act) {
	spoil(a.Lines, api.Line{Counter: 9, Change: 99})
	spoil(a.Guards, api.Guard{Kind: 9})
	spoil(a.Sets, api.Set{N: 99})
	spoil(a.Merge.Other, api.Line{Counter: 9, Change: 99})
	spoil(a.Rights, api.Right{N: 99})
}

func spoilActs(l []api.Act) {
	for _, a := range l {
		spoilAct(a)
	}
	spoil(l, api.Act{Kind: 9})
}

func spoilEntries(l []api.Entry) {
	for _, e := range l {
		spoilAct(e.Act)
		spoil(e.Made, api.Line{Counter: 9, Change: 99})
		spoil(e.Sets, api.Set{N: 99})
	}
	spoil(l, api.Entry{Position: 99})
}

func spoilState(s api.State) {
	for _, p := range s.Pools {
		spoil(p.Held, [2]int64{9, 9})
	}
	spoil(s.Pools, api.Pool{Value: 99})
	spoil(s.Prices, api.Priced{Price: 99})
	spoil(s.Last, 99)
	spoil(s.Gen, 99)
	spoil(s.Owed, true)
}

func TestP16_6WhatIsHandedIn(t *testing.T) {
	c := fullConf()
	r := newRig(t, c, 0, emptyDisk(t))
	if text(c) != text(fullConf()) {
		t.Errorf("Start has changed what it was given: %+v", c)
	}
	r.c = conf()
	spoil(c.Counters, api.Counter{Name: "X", Lo: 1, Hi: 0})
	spoil(c.Prices, api.Price{Start: -9})
	a := fullWrite()
	r.issued(a, api.Best, 1, false)
	if text(a) != text(fullWrite()) || a.Lines[:5][4] != (api.Line{}) {
		t.Errorf("Issue has changed what it was given: %+v", a)
	}
	spoilAct(a)
	r.has(nil, []api.Act{as(0, 1, fullWrite())})
	r.word()
	r.ticks("1/0:hello 0 2/0:act 1")

	f := r.frame()
	f.Seq, f.Body = 1, r.made(act.Body{Kind: act.BodyEntry, Entry: r.next()})
	want := []api.Entry{r.next()}
	whole := frameBytes(t, f)
	b := append(bytes.Clone(whole), "spare"...)[:len(whole)]
	if errno := r.v.Hear(b); errno != api.OK {
		t.Fatal(errno)
	}
	if !bytes.Equal(b, whole) || string(b[len(b):len(b)+5]) != "spare" {
		t.Errorf("Hear has changed what it was given: %x", b)
	}
	spoil(b, 0xee)
	r.has(want, nil)
	before := fullConf()
	if device.Kept(before, 0, r.d); text(before) != text(fullConf()) {
		t.Errorf("Kept has changed what it was given: %+v", before)
	}
}

func TestP16_6WhatIsAnswered(t *testing.T) {
	r := newRig(t, conf(), 0, emptyDisk(t))
	r.word()
	r.issued(ask(down(3)), api.Loose, 1, false)
	r.issued(fullWrite(), api.Loose, 2, false)
	r.entry(r.next())
	r.entry(r.next())
	r.entry(r.fence(0))
	r.issued(fullWrite(), api.Loose, 4, false)
	for range 2 {
		before := r.all()
		spoilEntries(r.v.Taken())
		spoilActs(r.v.Pending())
		spoilState(r.v.Base())
		spoilState(r.v.View())
		taken, pending, _, _ := device.Kept(r.c, 0, r.d)
		spoilEntries(taken)
		spoilActs(pending)
		if g := r.all(); g != before {
			t.Fatalf("it is %s\nwant %s", g, before)
		}
		r.has(r.v.Taken(), r.v.Pending())
		r.restart()
		r.word()
	}

	out, _ := r.v.Tick()
	var want []string
	for _, m := range out {
		want = append(want, string(m.Bytes))
	}
	if len(out) != 3 {
		t.Fatalf("%d flights", len(out))
	}
	for i, m := range out {
		if string(m.Bytes) != want[i] {
			t.Errorf("flight %d shares its memory", i)
		}
		spoil(m.Bytes, 0xee)
	}
	spoil(out, api.Flight{To: 9})
	r.ticks("1/0:hello 3 2/0:act 3 3/0:act 4")
}

// Devices with disks of their own have nothing in common: each goes on as it does alone.
func TestP16_6SideBySide(t *testing.T) {
	var group sync.WaitGroup
	all := make([]string, 6)
	for i := range all {
		group.Go(func() {
			w := chance{rand.New(rand.NewSource(int64(i % 2)))}.walk(t)
			for range 400 {
				w.step()
			}
			all[i] = text([]any{w.v.Taken(), w.v.Pending(), w.v.Base(), w.v.Life()})
		})
	}
	group.Wait()
	for i, x := range all {
		if x != all[i%2] {
			t.Errorf("%d: %s", i, x)
		}
	}
}

// What is no device that was started takes all calls, and issues nothing.
func TestP16_6WhateverIsGiven(t *testing.T) {
	var none device.Device
	frames := [][]byte{nil, []byte("no frame"), bytes.Repeat([]byte{0xff}, 1<<16)}
	for from := range 3 {
		for to := range 3 {
			for yours := range uint64(2) {
				for _, body := range []string{strings.Repeat("x", 9), "\x01\x00", "\x03\x01\x00\x00\x01"} {
					frames = append(frames, link.EncodeFrame(api.Frame{From: from, To: to, Mine: 1, Yours: yours, Seq: 1, Body: []byte(body)}))
				}
			}
		}
	}
	for _, b := range frames {
		if errno := none.Hear(b); errno != api.OK {
			t.Errorf("Hear(%x): %d", b, errno)
		}
		none.Tick()
	}
	if told, errno := none.Issue(write(-1), api.Best); errno == api.OK || told != (api.Told{}) {
		t.Errorf("Issue: %+v, %d", told, errno)
	}
	if none.Life() != 0 || len(none.Taken()) != 0 || len(none.Pending()) != 0 || none.Base().Position != 0 || none.View().Position != 0 {
		t.Errorf("%d, %v, %v", none.Life(), none.Taken(), none.Pending())
	}
}
