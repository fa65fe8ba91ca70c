package act_test

import (
	"bytes"
	"fmt"
	"math"
	"math/rand"
	"runtime"
	"slices"
	"testing"

	"till/act"
	"till/api"
)

// roomy is a list with spare room that holds something.
func roomy[T any](list []T, fill T) []T {
	out := append(slices.Clone(list), fill, fill, fill)
	return out[:len(list)]
}

// whole is what a list and its spare room hold.
func whole[T any](list []T) string { return fmt.Sprintf("%+v", list[:cap(list)]) }

func (r chance) roomyEntry(c api.Config) api.Entry {
	e := r.entry(c)
	line, set, right := api.Line{Counter: 9, Change: 9}, api.Set{Price: 9, N: 9}, api.Right{Counter: 9, N: 9}
	e.Made, e.Sets = roomy(e.Made, line), roomy(e.Sets, set)
	e.Act.Lines, e.Act.Merge.Other = roomy(e.Act.Lines, line), roomy(e.Act.Merge.Other, line)
	e.Act.Guards, e.Act.Sets, e.Act.Rights = roomy(e.Act.Guards, api.Guard{Kind: 9}), roomy(e.Act.Sets, set), roomy(e.Act.Rights, right)
	return e
}

func wholeEntry(e api.Entry) string {
	a := e.Act
	return fmt.Sprint(a.Head, a.Kind, a.Sure, a.Merge.Kind, a.Right, a.To, a.Gen, e.Position, e.Outcome, e.N, e.Fence, e.Gen) +
		whole(e.Made) + whole(e.Sets) + whole(a.Lines) + whole(a.Guards) + whole(a.Sets) + whole(a.Merge.Other) + whole(a.Rights)
}

func TestP8_8WhatIsHandedInStays(t *testing.T) {
	r := chance{rand.New(rand.NewSource(12))}
	for range 500 {
		c := greatest()
		c.Counters, c.Prices = roomy(c.Counters, api.Counter{Name: "z"}), roomy(c.Prices, api.Price{Name: "z"})
		r.Shuffle(len(c.Counters), func(i, j int) { c.Counters[i], c.Counters[j] = c.Counters[j], c.Counters[i] })
		e := r.roomyEntry(c)
		before, conf := wholeEntry(e), whole(c.Counters)+whole(c.Prices)
		act.Fits(c)
		act.Check(c, e.Act)
		act.CheckEntry(c, e)
		act.Encode(c, e.Act)
		act.Make(c, act.Body{Kind: act.BodyAct, Act: e.Act})
		act.Make(c, act.Body{Kind: act.BodyEntry, Entry: e})
		b, _ := act.EncodeEntry(c, e)
		full := roomy(b, 77)
		act.DecodeEntry(c, full)
		act.Decode(c, full[1:])
		act.Read(c, full)
		if wholeEntry(e) != before || whole(c.Counters)+whole(c.Prices) != conf {
			t.Fatalf("an entry or a configuration was changed: %+v", e)
		}
		if !bytes.Equal(full, b) || !bytes.Equal(full[:cap(full)][len(b):len(b)+3], []byte{77, 77, 77}) {
			t.Fatalf("bytes were changed: % x", full[:cap(full)])
		}
	}
}

// scribble fills a list and its spare room with something else.
func scribble[T any](list []T, with T) {
	list = list[:cap(list)]
	for i := range list {
		list[i] = with
	}
}

// Every list of an answer is filled up in turn: all the others must stay as they were.
func TestP8_8AnswersShareNothing(t *testing.T) {
	c := greatest()
	e := api.Entry{Position: 1, Act: greatestWrite(), Outcome: api.Applied}
	e.Made = slices.Clone(e.Act.Lines)
	for price := range api.MaxSets {
		e.Sets = append(e.Sets, api.Set{Price: price, Version: 1})
	}
	b, errno := act.EncodeEntry(c, e)
	if errno != api.OK {
		t.Fatal(errno)
	}
	kept := bytes.Clone(b)
	x, _ := act.DecodeEntry(c, b)
	y, _ := act.DecodeEntry(c, b)
	b2, _ := act.EncodeEntry(c, e)
	line, set := api.Line{Counter: -9}, api.Set{Price: -9}
	for name, fill := range map[string]func(){
		"Made": func() { scribble(x.Made, line) }, "Sets": func() { scribble(x.Sets, set) }, "Lines": func() { scribble(x.Act.Lines, line) },
		"Guards": func() { scribble(x.Act.Guards, api.Guard{}) }, "Act.Sets": func() { scribble(x.Act.Sets, set) },
		"Other": func() { scribble(x.Act.Merge.Other, line) }, "bytes": func() { scribble(b, 77) },
	} {
		x, _ = act.DecodeEntry(c, kept)
		fill()
		want := e
		switch name {
		case "Made":
			want.Made = x.Made
		case "Sets":
			want.Sets = x.Sets
		case "Lines":
			want.Act.Lines = x.Act.Lines
		case "Guards":
			want.Act.Guards = x.Act.Guards
		case "Act.Sets":
			want.Act.Sets = x.Act.Sets
		case "Other":
			want.Act.Merge.Other = x.Act.Merge.Other
		}
		if !same(x, want) || !same(y, e) || !bytes.Equal(b2, kept) {
			t.Errorf("%s shares memory with another list", name)
		}
	}
}

// odd are numbers at which something may break.
var odd = []int{0, 1, -1, 2, 7, 63, 64, 255, 256, 257, 1 << 31, 1 << 32, 1 << 40, 1 << 53, 1<<54 + 1, math.MaxInt, math.MinInt}

func (r chance) odd() int { return odd[r.Intn(len(odd))] }

func (r chance) oddRight() api.Right {
	return api.Right{Counter: r.odd(), Way: r.odd(), N: int64(r.odd())}
}

func (r chance) oddEntry() api.Entry {
	var e api.Entry
	line := func() api.Line { return api.Line{Counter: r.odd(), Change: int64(r.odd())} }
	for range r.Intn(300) {
		e.Made, e.Act.Lines, e.Act.Merge.Other = append(e.Made, line()), append(e.Act.Lines, line()), append(e.Act.Merge.Other, line())
		e.Act.Guards = append(e.Act.Guards, api.Guard{Kind: r.odd(), What: r.odd(), N: int64(r.odd())})
		e.Sets = append(e.Sets, api.Set{Price: r.odd(), Version: r.odd(), N: int64(r.odd())})
		e.Act.Rights = append(e.Act.Rights, r.oddRight())
	}
	e.Act.Sets = e.Sets
	e.Act.Kind, e.Act.Till, e.Act.Number, e.Act.Sure = r.Intn(7), r.odd(), uint64(r.odd()), r.Intn(2) == 0
	e.Act.Merge.Kind, e.Act.Right, e.Act.To, e.Act.Gen = r.odd(), r.oddRight(), r.odd(), uint64(r.odd())
	e.Position, e.Outcome, e.N, e.Fence, e.Gen = uint64(r.odd()), r.odd(), int64(r.odd()), r.odd(), uint64(r.odd())
	return e
}

// Nothing may panic, of whatever configuration, act, entry or bytes.
func TestP8_8Whatever(t *testing.T) {
	r := chance{rand.New(rand.NewSource(13))}
	for range 3000 {
		c := api.Config{
			Tills: r.odd(), Counters: make([]api.Counter, r.Intn(400)), Prices: make([]api.Price, r.Intn(400)),
			Lease: r.odd(), Watch: r.odd(), Beat: r.odd(), Window: r.odd(), Cap: r.odd(), Flight: r.odd(),
		}
		if act.Fits(c) == api.OK {
			t.Fatalf("counters without names fit: %+v", c)
		}
		e := r.oddEntry()
		if r.Intn(2) == 0 {
			e = r.entry(greatest())
		}
		act.Check(c, e.Act)
		act.CheckEntry(c, e)
		act.Encode(c, e.Act)
		b, _ := act.EncodeEntry(c, e)
		act.Make(c, act.Body{Kind: r.Intn(5), Position: e.Position, Act: e.Act, Entry: e})
		act.Make(c, act.Body{Kind: act.BodyEntry, Entry: e})
		noise := make([]byte, r.Intn(40))
		r.Read(noise)
		for _, x := range [][]byte{nil, b, noise, r.hurt(modelEntry(r.entry(greatest())))} {
			act.Decode(c, x)
			act.DecodeEntry(c, x)
			act.Read(c, x)
		}
	}
}

// Bytes tell of 255 rights or lines that are not there: reading them must not take room for these.
func TestP8_7NumbersThatBytesTellTakeNoMemory(t *testing.T) {
	const rounds = 2000
	lists := [][]byte{{5, 0, 1, 1, 255}, {1, 0, 1, 0, 255}, {1, 0, 1, 0, 0, 255}, {1, 0, 1, 0, 0, 0, 255}, {1, 0, 1, 0, 0, 0, 0, 2, 255}}
	for _, b := range lists {
		var before, after runtime.MemStats
		runtime.ReadMemStats(&before)
		for range rounds {
			if _, errno := act.Decode(conf(), b); errno != api.ErrActBytes {
				t.Fatal(errno)
			}
		}
		runtime.ReadMemStats(&after)
		if each := (after.TotalAlloc - before.TotalAlloc) / rounds; each > 2000 {
			t.Errorf("% x took %d bytes", b, each)
		}
	}
}
