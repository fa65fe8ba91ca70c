package link_test

import (
	"bytes"
	"math"
	"math/rand"
	"slices"
	"strings"
	"sync"
	"testing"

	"till/api"
	"till/link"
)

// scribble fills bytes and their spare room with something else.
func scribble(b []byte) {
	b = b[:cap(b)]
	for i := range b {
		b[i] = 0xee
	}
}

// roomy is a text in bytes with spare room that holds something.
func roomy(s string) []byte {
	return append([]byte(s), "spare room"...)[:len(s)]
}

func stays(t *testing.T, what string, b []byte, want string) {
	t.Helper()
	if g := string(b[:len(b)+len("spare room")]); g != want+"spare room" {
		t.Errorf("%s: what was handed in is %q", what, g)
	}
}

func TestP14_9WhatIsHandedIn(t *testing.T) {
	l := open(t, 4, 1)
	body := roomy("a")
	l.Send(body)
	ticks(t, l, "1:a/0")
	stays(t, "Send", body, "a")
	scribble(body)
	ticks(t, l, "1:a/0")

	f := right(1, 0, "")
	f.Body = roomy("x")
	h := l.Hear(f)
	stays(t, "Hear", f.Body, "x")
	scribble(f.Body)
	if string(h.Body) != "x" {
		t.Errorf("what Hear has answered is %q", h.Body)
	}

	f.Body = roomy("y")
	b := link.EncodeFrame(f)
	stays(t, "EncodeFrame", f.Body, "y")
	scribble(f.Body)
	in := roomy(string(b))
	g, ok := link.DecodeFrame(in)
	stays(t, "DecodeFrame", in, string(b))
	scribble(in)
	if !ok || string(g.Body) != "y" {
		t.Errorf("what DecodeFrame has answered is %+v, %v", g, ok)
	}
}

func TestP14_9WhatIsAnswered(t *testing.T) {
	l := open(t, 4, 1)
	sends(t, l, "a", "b", "c")
	out := l.Tick()
	want := []string{string(out[0]), string(out[1]), string(out[2])}
	for i, b := range out {
		scribble(b)
		for j := i + 1; j < len(out); j++ {
			if string(out[j]) != want[j] {
				t.Errorf("frames %d and %d of one answer share memory", i, j)
			}
		}
	}
	for i := range out {
		out[i] = nil
	}
	_ = append(out, []byte("more"))
	ticks(t, l, "1:a/0 2:b/0 3:c/0") // of which nothing is seen

	h := l.Hear(right(1, 0, "x"))
	scribble(h.Body)
	f := right(2, 0, "y")
	h = l.Hear(f)
	scribble(h.Body)
	if string(f.Body) != "y" {
		t.Errorf("what Hear answers is the frame's own memory: %q", f.Body)
	}
	ticks(t, l, "1:a/2 2:b/2 3:c/2")

	b := link.EncodeFrame(f)
	first, _ := link.DecodeFrame(b)
	scribble(first.Body)
	if g, ok := link.DecodeFrame(b); !ok || string(g.Body) != "y" {
		t.Errorf("what DecodeFrame answers is its argument's memory: %+v, %v", g, ok)
	}
}

// Empty lists and nil are one.
func TestP14_9NilAndEmpty(t *testing.T) {
	for _, body := range [][]byte{nil, {}} {
		l := open(t, 2, 4)
		if e := l.Send(body); e != api.OK {
			t.Errorf("Send: %d", e)
		}
		ticks(t, l, "1:/0")
		f := right(1, 0, "")
		f.Body = body
		hears(t, l, f, handed(""))
		word := right(0, 0, "")
		word.Body = body
		hears(t, l, word, rightOnly)
	}
}

// ends calls all that a link has, with what it may be given.
func ends(l *link.Link, me, other int, life uint64) {
	for i := range 20 {
		l.Send([]byte("body"))
		l.Send(make([]byte, api.MaxBody+1))
		l.Owe()
		l.Tick()
		n := uint64(i)
		for _, yours := range []uint64{life, 0, math.MaxUint64} {
			for _, mine := range []uint64{0, 1, n, api.MaxNumber, math.MaxUint64} {
				l.Hear(api.Frame{From: other, To: me, Mine: mine, Yours: yours, Seq: n, Ack: n})
				l.Hear(api.Frame{From: other, To: me, Mine: mine, Yours: yours, Seq: math.MaxUint64, Ack: math.MaxUint64})
				l.Hear(api.Frame{From: me, To: other, Mine: mine, Yours: yours, Body: make([]byte, 3000)})
			}
		}
		l.Known()
		l.Life()
		l.Len()
	}
}

func TestP14_9WhateverIsGiven(t *testing.T) {
	wrong := []int{math.MinInt, -1, 0, 1, 9, 17, 65, 256, math.MaxInt}
	for _, n := range wrong {
		for _, life := range []uint64{0, 1, api.MaxNumber + 1, math.MaxUint64} {
			for _, x := range [][4]int{{n, 0, 2, 4}, {0, n, 2, 4}, {n, n, 2, 4}, {0, 2, n, 4}, {0, 2, 2, n}, {0, 2, n, n}, {n, n, n, n}} {
				ends(link.New(x[0], x[1], life, x[2], x[3]), x[0], x[1], life)
			}
		}
	}
	ends(&link.Link{}, 0, 0, 0)
}

// A row of more than a window by far leaves step by step, each body once.
func TestP14_9LongRow(t *testing.T) {
	const many = 300000
	l := open(t, api.MaxWindow, 1)
	for range many {
		l.Send([]byte("b"))
	}
	sent := uint64(0)
	for l.Len() > 0 {
		sent += uint64(len(l.Tick()))
		l.Hear(right(0, sent, ""))
	}
	if sent != many {
		t.Errorf("%d went out", sent)
	}
}

// Links that are used side by side share nothing: each goes on as it does alone.
func TestP14_9SideBySide(t *testing.T) {
	walk := func(seed int64) string {
		r := chance{rand.New(rand.NewSource(seed))}
		p := r.pair()
		for range 300 {
			if fault := r.step(p); fault != "" {
				return fault
			}
		}
		return ""
	}
	var group sync.WaitGroup
	faults := make([]string, 8)
	for i := range faults {
		group.Go(func() { faults[i] = walk(int64(i)) })
	}
	group.Wait()
	if all := strings.Join(faults, ""); all != "" {
		t.Error(all)
	}
}

// Whatever bytes come: what is read from them is heard, and that is all.
func TestP14_9Bytes(t *testing.T) {
	r := chance{rand.New(rand.NewSource(9))}
	p := r.pair()
	for range 3000 {
		b := link.EncodeFrame(r.frame(p.model))
		if len(b) > 0 && r.Intn(2) == 0 {
			b = slices.Delete(b, r.Intn(len(b)), len(b))
		}
		if f, ok := link.DecodeFrame(b); ok {
			if !bytes.Equal(link.EncodeFrame(f), b) {
				t.Fatalf("%x: %+v", b, f)
			}
			if g, want := p.link.Hear(f), p.model.hear(f); told(g) != told(want) {
				t.Fatalf("Hear(%+v): %s, want %s", f, told(g), told(want))
			}
		}
	}
}
