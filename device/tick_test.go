package device_test

import (
	"testing"

	"till/api"
)

// A till that holds nothing, or knows of no server, says no word of its own.
func TestP16_5NoBeat(t *testing.T) {
	r := talking(t)
	r.ticks("1/0:hello 0") // the pace: its hello was not acked yet
	r.word()
	for range 40 {
		r.ticks("")
	}
	r = holding(t)
	r.restart() // it holds 3, but does not know the server's life: words by the pace, at 1, 2, 4, 8, 16 ..
	for tick := 1; tick <= 40; tick++ {
		switch tick {
		case 1, 2, 4, 8, 16, 24, 32, 40:
			r.ticks("word/0")
		default:
			r.ticks("")
		}
	}
}

// With rights it says a word every Beat ticks, counted from the last tick at which anything went out.
func TestP16_5Beat(t *testing.T) {
	r := holding(t) // its last frame went out at the last tick
	for range 5 {
		for range r.c.Beat - 1 {
			r.ticks("")
		}
		r.ticks("word/1")
	}
	for range 3 {
		r.ticks("")
	}
	r.issued(ask(up(1)), api.Loose, 2, false) // a body is a frame, too, and each time that it goes out
	r.ticks("3/1:act 2")
	r.ticks("3/1:act 2")
	for range r.c.Beat - 1 {
		r.word() // what is heard does not count
		r.ticks("")
	}
	r.ticks("word/1")
	r.entry(r.next()) // an ack is a frame, too
	r.ticks("word/2")
	for range r.c.Beat - 1 {
		r.ticks("")
	}
	r.ticks("word/2")
}

// Rights that another till passes on begin it, too: with the ack of their entry.
func TestP16_5BeatBehindSilence(t *testing.T) {
	r := talking(t)
	r.word()
	for range 30 {
		r.ticks("")
	}
	r.entry(r.other(1, ask(down(2))))
	r.ticks("word/1")
	for range 30 {
		r.ticks("")
	}
	r.entry(r.other(1, pass(0, down(2))))
	r.ticks("word/2")
	for range r.c.Beat - 1 {
		r.ticks("")
	}
	r.ticks("word/2")
}

// Behind a start with rights that are older: it is counted from the first tick, at which there is always something to say.
func TestP16_5BeatSinceStart(t *testing.T) {
	c := conf()
	for _, beat := range []int{1, 2, 5, 12} {
		c.Beat = beat
		r := newRig(t, c, 0, emptyDisk(t))
		r.issued(ask(down(3)), api.Loose, 1, false)
		r.entry(r.next())
		r.restart()
		r.word()
		r.ticks("1/0:hello 1")
		r.word()
		for range 3 {
			for range beat - 1 {
				r.ticks("")
			}
			r.ticks("word/0")
		}
	}
}

// It is the base that counts: rights that are spoken for are still held.
func TestP16_5BeatWhileHeld(t *testing.T) {
	r := holding(t)
	r.issued(give(down(3)), api.Loose, 2, false)
	r.ticks("3/1:act 2")
	r.word()
	for range r.c.Beat - 1 {
		r.ticks("")
	}
	r.ticks("word/1")
	r.entry(r.next()) // now nothing is held
	r.ticks("word/2")
	for range 40 {
		r.ticks("")
	}
}

// What goes out at a tick is the link's: first what is new, all of it again by the pace; an ack alone, if there is no body.
func TestP16_5Flights(t *testing.T) {
	r := newRig(t, conf(), 1, emptyDisk(t))
	r.ticks("word/0")
	r.ticks("word/0")
	r.ticks("")
	r.ticks("word/0")
	r.word()
	r.issued(ask(down(1)), api.Loose, 1, false)
	r.issued(ask(down(1)), api.Loose, 2, false)
	r.issued(ask(down(1)), api.Loose, 3, false)
	r.issued(ask(down(1)), api.Loose, 4, false)
	r.ticks("1/0:hello 0 2/0:act 1 3/0:act 2 4/0:act 3")
	r.heard = 2
	r.word()
	r.ticks("3/0:act 2 4/0:act 3 5/0:act 4")
	r.ticks("")
	r.ticks("3/0:act 2 4/0:act 3 5/0:act 4")
	r.heard = 5
	r.word()
	r.ticks("")
	r.entry(r.next())
	r.ticks("word/1")
	r.ticks("")
}

// The lease is counted ahead of all else, whatever goes out.
func TestP16_5Lease(t *testing.T) {
	for _, lease := range []int{1, 2, 7} {
		c := conf()
		c.Lease = lease
		r := newRig(t, c, 0, emptyDisk(t))
		for range 3 {
			if r.v.Runs() {
				t.Error("it runs behind a start")
			}
			r.tick(1)
		}
		r.word()
		for range lease {
			if !r.v.Runs() {
				t.Error("it does not run")
			}
			r.tick(1)
		}
		if r.v.Runs() {
			t.Error("it runs on")
		}
		r.word()
		r.restart()
		if r.v.Runs() {
			t.Error("it runs behind a start")
		}
	}
}
