package world

import (
	"testing"

	"till/api"
	"till/code"
	"till/disk"
	"till/journal"
)

// What no script can bring about is set from inside.

func inside(t *testing.T) *World {
	t.Helper()
	w, errno := New(api.Config{Tills: 1, Counters: []api.Counter{{Name: "tea", Hi: 10, Start: 4}}, Lease: 20, Watch: 30, Beat: 4, Window: 2, Cap: 4, Flight: 50})
	if errno != api.OK {
		t.Fatal(errno)
	}
	return w
}

func TestP17_2DeliverToNone(t *testing.T) {
	w := inside(t)
	for _, to := range []int{-1, 2, 99} {
		w.net.Send(to, []byte{7})
		if told, errno := w.Step(api.Event{Kind: api.EventDeliver, Off: 1}); told != (api.Told{}) || errno != api.OK || w.Len() != 0 {
			t.Errorf("to %d: %+v, %d, %d on their way", to, told, errno, w.Len())
		}
	}
}

// A Start that is refused with the power on: its error, and the node stays down.
func TestP17_2RefusedStart(t *testing.T) {
	for node, x := range []struct {
		name  string
		errno api.Errno
	}{{"till", api.ErrDeviceDisk}, {"server", api.ErrServerDisk}} {
		w := inside(t)
		w.Step(api.Event{Kind: api.EventCrash, Node: node})
		d, _ := disk.New(api.NodeRoom)
		j, _ := journal.Open(d, x.name)
		life := code.New()
		life.U8(1)
		life.U64(api.MaxNumber)
		if errno := j.Add([][]byte{life.Out()}); errno != api.OK {
			t.Fatal(errno)
		}
		w.nodes[node].disk = d
		for range 2 {
			for _, off := range []int{0, 1} { // no stroke is made: no power goes off
				if told, errno := w.Step(api.Event{Kind: api.EventRestart, Node: node, Off: off}); told != (api.Told{}) || errno != x.errno {
					t.Errorf("node %d: %+v, %d", node, told, errno)
				}
			}
			if w.Up(node) || w.Life(node) != 1 || w.nodes[node].disk != d {
				t.Errorf("node %d: up %v, life %d", node, w.Up(node), w.Life(node))
			}
		}
		if len(w.Log()) != 0 || len(w.Taken(0)) != 0 || len(w.Pending(0)) != 0 {
			t.Errorf("node %d tells something", node)
		}
	}
}

// A disk gets as much room as a crash leaves bytes, if that is more than a node's disk has.
func TestP17_3RoomBehindACrash(t *testing.T) {
	for _, size := range []int{0, 1, api.NodeRoom - 1, api.NodeRoom, api.NodeRoom + 1, api.MaxRoom} {
		d, _ := disk.New(api.MaxRoom)
		half := make([]byte, size/2)
		d.Append("a", half)
		d.Append("b", half)
		d.Append("b", make([]byte, size%2))
		d.Sync("a")
		d.Sync("b")
		d.SyncNames()
		n := node{disk: d, life: 7}
		n.fall(nil)
		a, _ := n.disk.Size("a")
		b, _ := n.disk.Size("b")
		if n.disk == d || n.disk.Room() != max(size, api.NodeRoom) || a+b != size || n.life != 7 || n.runs != nil {
			t.Errorf("%d bytes: room %d, %d and %d bytes, life %d", size, n.disk.Room(), a, b, n.life)
		}
	}
}

// At first, and behind each fall, the disk has the room NodeRoom.
func TestP17_1Room(t *testing.T) {
	w := inside(t)
	for i := range w.nodes {
		d := w.nodes[i].disk
		if d.Room() != api.NodeRoom {
			t.Errorf("node %d: %d", i, d.Room())
		}
		w.Step(api.Event{Kind: api.EventCrash, Node: i})
		if now := w.nodes[i].disk; now == d || now.Room() != api.NodeRoom || now.Strokes() != 0 {
			t.Errorf("node %d behind a fall: %d", i, now.Room())
		}
	}
}

// What runs is let go with the power.
func TestP17_3LetGo(t *testing.T) {
	w := inside(t)
	for i := range w.nodes {
		w.Step(api.Event{Kind: api.EventCrash, Node: i})
		if n := w.nodes[i]; n.runs != nil || n.till != nil || n.server != nil {
			t.Errorf("node %d: %+v", i, n)
		}
	}
}

// All that a node which is up has on its disk is safe; so the picks of a crash are to be seen only by what another hand has put there.
func TestP17_2PicksOfACrash(t *testing.T) {
	for _, picks := range [][]int{nil, {1}, {1, 2}, {-1, -1, -1}, {0, 3}} {
		w := inside(t)
		d := w.nodes[0].disk
		d.Append("a", []byte("xyz"))
		d.Append("a", []byte("q"))
		want, _ := disk.Load(d.Crash(picks), api.NodeRoom)
		w.Step(api.Event{Kind: api.EventCrash, Node: 0, Picks: picks})
		have, errno := w.nodes[0].disk.Read("a")
		b, wantErrno := want.Read("a")
		if string(have) != string(b) || errno != wantErrno {
			t.Errorf("%v leave %q, %d, want %q, %d", picks, have, errno, b, wantErrno)
		}
	}
}
