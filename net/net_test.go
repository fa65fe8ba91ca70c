package net_test

import (
	"math"
	"slices"
	"strconv"
	"strings"
	"testing"

	"till/api"
	"till/net"
)

func made(t *testing.T, flight int) *net.Net {
	t.Helper()
	n, e := net.New(flight)
	if n == nil || e != api.OK {
		t.Fatalf("New(%d): %v, %d", flight, n, e)
	}
	return n
}

// sent makes a net of so much room that has been sent these texts, each to its place.
func sent(t *testing.T, flight int, texts ...string) *net.Net {
	t.Helper()
	n := made(t, flight)
	for i, s := range texts {
		sends(t, n, i, s, true)
	}
	return n
}

func sends(t *testing.T, n *net.Net, to int, s string, want bool) {
	t.Helper()
	if g := n.Send(to, []byte(s)); g != want {
		t.Errorf("Send(%d, %q): %v, want %v", to, s, g, want)
	}
}

func said(f api.Flight) string { return strconv.Itoa(f.To) + string(f.Bytes) }

// holds looks at every place of a net's row.
func holds(t *testing.T, n *net.Net, want string) {
	t.Helper()
	var row []string
	for i := range n.Len() {
		f, ok := n.Look(i)
		if !ok {
			t.Errorf("Look(%d) of %d: false", i, n.Len())
		}
		row = append(row, said(f))
	}
	if g := strings.Join(row, " "); g != want {
		t.Errorf("the row is %q, want %q", g, want)
	}
}

func lost(t *testing.T, n *net.Net, want uint64) {
	t.Helper()
	if g := n.Lost(); g != want {
		t.Errorf("Lost: %d, want %d", g, want)
	}
}

func takes(t *testing.T, n *net.Net, i int, want string) {
	t.Helper()
	if f, ok := n.Take(i); !ok || said(f) != want {
		t.Errorf("Take(%d): %q, %v, want %q", i, said(f), ok, want)
	}
}

// noPlaces are indexes that a row of so many messages has not.
func noPlaces(size int) []int {
	return []int{-1, -2, size, size + 1, api.MaxFlight, math.MinInt, math.MaxInt}
}

func TestP6_1_New(t *testing.T) {
	for _, flight := range []int{0, -1, api.MaxFlight + 1, math.MinInt, math.MaxInt} {
		if n, e := net.New(flight); n != nil || e != api.ErrNetRoom {
			t.Errorf("New(%d): %v, %d", flight, n, e)
		}
	}
	for _, flight := range []int{1, 2, 64, api.MaxFlight - 1, api.MaxFlight} {
		n := made(t, flight)
		holds(t, n, "")
		lost(t, n, 0)
		for range flight {
			sends(t, n, 0, "", true)
		}
		sends(t, n, 0, "", false)
		if n.Len() != flight {
			t.Errorf("New(%d) has room for %d", flight, n.Len())
		}
	}
}

func TestP6_2_Send(t *testing.T) {
	n := made(t, 3)
	sends(t, n, 1, "a", true)
	holds(t, n, "1a")
	sends(t, n, 7, "bc", true)
	sends(t, n, 1, "a", true)
	holds(t, n, "1a 7bc 1a")
	sends(t, n, 1, "d", false)
	holds(t, n, "1a 7bc 1a")
	lost(t, n, 1)
	n.Drop(1)
	sends(t, n, 2, "e", true)
	holds(t, n, "1a 1a 2e")
	lost(t, n, 1)
}

func TestP6_2_AnyNumberAnyBytes(t *testing.T) {
	all := make([]byte, 256)
	for i := range all {
		all[i] = byte(i)
	}
	long := slices.Repeat(all, 1<<12)
	n := made(t, 16)
	for _, to := range []int{0, -1, math.MinInt, math.MaxInt} {
		for _, b := range [][]byte{nil, {}, all, long} {
			if !n.Send(to, b) {
				t.Fatalf("Send(%d, %d bytes): false", to, len(b))
			}
			f, ok := n.Look(n.Len() - 1)
			if !ok || f.To != to || !slices.Equal(f.Bytes, b) {
				t.Errorf("to %d, %d bytes: %d, %d, %v", to, len(b), f.To, len(f.Bytes), ok)
			}
		}
	}
}

func TestP6_3_LenAndLost(t *testing.T) {
	n := made(t, 2)
	for i := range 5 {
		n.Send(i, []byte("x"))
		if g, want := n.Len(), min(i+1, 2); g != want {
			t.Errorf("Len behind %d: %d, want %d", i+1, g, want)
		}
		lost(t, n, uint64(max(i-1, 0)))
	}
	n.Take(0)
	n.Drop(0)
	if n.Len() != 0 {
		t.Errorf("Len of an emptied net: %d", n.Len())
	}
	lost(t, n, 3) // what is taken or dropped does not count
}

func TestP6_4_Look(t *testing.T) {
	n := sent(t, 5, "a", "b", "c")
	for range 2 {
		f, ok := n.Look(1)
		if !ok || said(f) != "1b" {
			t.Errorf("Look(1): %q, %v", said(f), ok)
		}
		holds(t, n, "0a 1b 2c")
	}
	for _, i := range noPlaces(3) {
		if f, ok := n.Look(i); ok || f.To != 0 || f.Bytes != nil {
			t.Errorf("Look(%d): %v, %v", i, f, ok)
		}
	}
}

func TestP6_4_Take(t *testing.T) {
	n := sent(t, 5, "a", "b", "c", "d", "e")
	takes(t, n, 2, "2c")
	holds(t, n, "0a 1b 3d 4e")
	takes(t, n, 0, "0a")
	takes(t, n, 2, "4e")
	holds(t, n, "1b 3d")
	for _, i := range noPlaces(2) {
		if f, ok := n.Take(i); ok || f.To != 0 || f.Bytes != nil {
			t.Errorf("Take(%d): %v, %v", i, f, ok)
		}
	}
	holds(t, n, "1b 3d")
	takes(t, n, 1, "3d")
	takes(t, n, 0, "1b")
	if f, ok := n.Take(0); ok || f.Bytes != nil {
		t.Errorf("Take of an empty net: %v, %v", f, ok)
	}
	lost(t, n, 0)
}

func TestP6_4_Drop(t *testing.T) {
	n := sent(t, 5, "a", "b", "c", "d", "e")
	for _, step := range []struct {
		i    int
		left string
	}{{4, "0a 1b 2c 3d"}, {0, "1b 2c 3d"}, {1, "1b 3d"}} {
		if !n.Drop(step.i) {
			t.Errorf("Drop(%d): false", step.i)
		}
		holds(t, n, step.left)
	}
	for _, i := range noPlaces(2) {
		if n.Drop(i) {
			t.Errorf("Drop(%d): true", i)
		}
	}
	holds(t, n, "1b 3d")
	lost(t, n, 0)
}

func TestP6_5_Double(t *testing.T) {
	n := sent(t, 5, "a", "b", "c")
	for _, i := range noPlaces(3) {
		if n.Double(i) {
			t.Errorf("Double(%d): true", i)
		}
	}
	holds(t, n, "0a 1b 2c")
	if !n.Double(1) {
		t.Errorf("Double(1): false")
	}
	holds(t, n, "0a 1b 2c 1b")
	if !n.Double(3) { // a double has doubles too
		t.Errorf("Double(3): false")
	}
	holds(t, n, "0a 1b 2c 1b 1b")
	for i := range 5 {
		if n.Double(i) {
			t.Errorf("Double(%d) in a full net: true", i)
		}
	}
	holds(t, n, "0a 1b 2c 1b 1b")
	lost(t, n, 0)
}

func TestP6_5_DoubleKeepsWhatWasLost(t *testing.T) {
	n := sent(t, 1, "a")
	sends(t, n, 1, "b", false)
	for _, i := range append(noPlaces(1), 0) {
		n.Double(i)
	}
	lost(t, n, 1)
	holds(t, n, "0a")
	n.Drop(0)
	if n.Double(0) {
		t.Errorf("Double in an empty net: true")
	}
	lost(t, n, 1)
}

// wipe overwrites a list and its spare room.
func wipe(b []byte) {
	b = b[:cap(b)]
	for i := range b {
		b[i] = '#'
	}
}

func TestP6_6_BytesHandedIn(t *testing.T) {
	b := []byte("abcdef")
	n := made(t, 8)
	n.Send(0, b[:3])
	n.Send(1, b[3:])
	n.Double(0)
	n.Look(0)
	n.Drop(1)
	if string(b) != "abcdef" {
		t.Errorf("the bytes handed in are %q now", b)
	}
	wipe(b)
	holds(t, n, "0abc 0abc")
}

func TestP6_6_WhatIsTold(t *testing.T) {
	n := sent(t, 8, "abc", "def")
	n.Double(0)
	first, _ := n.Look(0)
	again, _ := n.Look(0)
	double, _ := n.Look(2)
	wipe(first.Bytes)
	if string(again.Bytes) != "abc" || string(double.Bytes) != "abc" {
		t.Errorf("what is told shares memory: %q, %q", again.Bytes, double.Bytes)
	}
	holds(t, n, "0abc 1def 0abc")
	taken, _ := n.Take(0)
	wipe(taken.Bytes)
	holds(t, n, "1def 0abc")
	double, _ = n.Take(1)
	sends(t, n, 5, "xyz", true)
	if string(double.Bytes) != "abc" {
		t.Errorf("what was taken is %q now", double.Bytes)
	}
}

func TestP6_6_TwoNets(t *testing.T) {
	a, b := sent(t, 2, "a", "b"), sent(t, 2, "c")
	sends(t, a, 9, "d", false)
	lost(t, a, 1)
	lost(t, b, 0)
	a.Drop(0)
	a.Double(0)
	holds(t, a, "1b 1b")
	holds(t, b, "0c")
	sends(t, b, 4, "e", true)
	holds(t, a, "1b 1b")
	holds(t, b, "0c 4e")
}

func TestP6_7_GreatNet(t *testing.T) {
	n := made(t, api.MaxFlight)
	for i := range api.MaxFlight {
		sends(t, n, i, strconv.Itoa(i), true)
	}
	for i := range api.MaxFlight / 4 { // of each four one is dropped, one taken
		n.Drop(2 * i)
		taken := strconv.Itoa(4*i + 2)
		takes(t, n, 2*i+1, taken+taken)
	}
	for i := range api.MaxFlight / 2 {
		if !n.Double(i) {
			t.Fatalf("Double(%d): false", i)
		}
	}
	for k := range api.MaxFlight {
		want := strconv.Itoa(2*(k%(api.MaxFlight/2)) + 1)
		takes(t, n, 0, want+want)
	}
	holds(t, n, "")
}

func TestZeroNetHasNoRoom(t *testing.T) {
	n := &net.Net{}
	sends(t, n, 0, "a", false)
	lost(t, n, 1)
	_, looked := n.Look(0)
	_, taken := n.Take(0)
	if looked || taken || n.Drop(0) || n.Double(0) || n.Len() != 0 {
		t.Errorf("an empty net has a message")
	}
}

func TestExample(t *testing.T) {
	n := made(t, 2)
	sends(t, n, 1, "a", true)
	sends(t, n, 2, "b", true)
	sends(t, n, 1, "c", false)
	lost(t, n, 1)
	holds(t, n, "1a 2b")
	if n.Double(0) {
		t.Errorf("Double(0) without room: true")
	}
	lost(t, n, 1)
	takes(t, n, 0, "1a")
	if n.Len() != 1 || !n.Double(0) {
		t.Errorf("Double(0): false")
	}
	holds(t, n, "2b 2b")
	if !n.Drop(1) || n.Drop(1) {
		t.Errorf("Drop(1) twice")
	}
	if _, ok := n.Take(-1); ok {
		t.Errorf("Take(-1): true")
	}
}
