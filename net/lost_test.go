package net

import (
	"math"
	"testing"
)

// No script is long enough to come to the end of this counter: so it is set from inside.
func TestP6_3_LostStaysAtItsGreatest(t *testing.T) {
	n, _ := New(1)
	n.Send(0, nil)
	n.lost = math.MaxUint64 - 1
	for range 3 {
		if n.Send(0, nil) || n.Lost() != math.MaxUint64 {
			t.Errorf("Lost: %d", n.Lost())
		}
	}
}

// What is out of the row is not kept.
func TestTakenBytesAreLetGo(t *testing.T) {
	n, _ := New(3)
	for range 3 {
		n.Send(0, []byte("abc"))
	}
	n.Take(1)
	n.Drop(0)
	for _, m := range n.messages[n.Len():cap(n.messages)] {
		if m.bytes != "" {
			t.Errorf("%q is still kept", m.bytes)
		}
	}
}
