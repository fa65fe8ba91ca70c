package link_test

import (
	"fmt"
	"strings"
	"testing"

	"till/api"
	"till/link"
)

// The tests' links are those of till 0, in life 3, with the server, 2, in life 5.
const (
	till, server        = 0, 2
	tillLife, otherLife = 3, 5
)

func made(window, most int) *link.Link { return link.New(till, server, tillLife, window, most) }

// open is a link that knows the other's life, and owes nothing.
func open(t *testing.T, window, most int) *link.Link {
	t.Helper()
	l := made(window, most)
	hears(t, l, right(0, 0, ""), link.Heard{Anew: true, Right: true})
	return l
}

// right is a frame of the server's to the till with both lives right.
func right(seq, ack uint64, body string) api.Frame {
	f := api.Frame{From: server, To: till, Mine: otherLife, Yours: tillLife, Seq: seq, Ack: ack}
	if body != "" {
		f.Body = []byte(body)
	}
	return f
}

func frames(t *testing.T, l *link.Link) []api.Frame {
	t.Helper()
	var out []api.Frame
	for _, b := range l.Tick() {
		f, ok := link.DecodeFrame(b)
		if !ok {
			t.Fatalf("Tick: %x is no frame", b)
		}
		out = append(out, f)
	}
	return out
}

// said is frames in words: Seq:Body/Ack, a word as -/Ack.
func said(l []api.Frame) string {
	var out []string
	for _, f := range l {
		if f.Seq == 0 {
			out = append(out, fmt.Sprintf("-/%d", f.Ack))
			continue
		}
		out = append(out, fmt.Sprintf("%d:%s/%d", f.Seq, f.Body, f.Ack))
	}
	return strings.Join(out, " ")
}

func ticks(t *testing.T, l *link.Link, want ...string) {
	t.Helper()
	for i, w := range want {
		if g := said(frames(t, l)); g != w {
			t.Errorf("Tick %d of these: %q, want %q", i+1, g, w)
		}
	}
}

func sends(t *testing.T, l *link.Link, bodies ...string) {
	t.Helper()
	for _, b := range bodies {
		if e := l.Send([]byte(b)); e != api.OK {
			t.Errorf("Send(%q): %d", b, e)
		}
	}
}

func told(h link.Heard) string {
	return fmt.Sprintf("%q handed %v anew %v right %v", h.Body, h.Handed, h.Anew, h.Right)
}

func hears(t *testing.T, l *link.Link, f api.Frame, want link.Heard) {
	t.Helper()
	if g := l.Hear(f); told(g) != told(want) {
		t.Errorf("Hear(%+v): %s, want %s", f, told(g), told(want))
	}
}

func handed(body string) link.Heard {
	return link.Heard{Body: []byte(body), Handed: true, Right: true}
}

func holds(t *testing.T, l *link.Link, length int) {
	t.Helper()
	if g := l.Len(); g != length {
		t.Errorf("Len: %d, want %d", g, length)
	}
}

func knows(t *testing.T, l *link.Link, life uint64) {
	t.Helper()
	if l.Life() != life || l.Known() != (life != 0) {
		t.Errorf("Known %v, Life %d, want life %d", l.Known(), l.Life(), life)
	}
}

var (
	rightOnly = link.Heard{Right: true}
	anewOnly  = link.Heard{Anew: true}
	nothing   = link.Heard{}
)

func TestP14_2New(t *testing.T) {
	l := made(2, 4)
	knows(t, l, 0)
	holds(t, l, 0)
	// A word is owed by the pace, which begins: times behind 1, 2, 4, 4 .. ticks.
	ticks(t, l, "-/0", "-/0", "", "-/0", "", "", "", "-/0", "", "", "", "-/0")

	// Nothing has been numbered, 1 is expected.
	l = made(2, 4)
	hears(t, l, right(1, 0, "a"), link.Heard{Body: []byte("a"), Handed: true, Anew: true, Right: true})
	sends(t, l, "x")
	ticks(t, l, "1:x/1")
}

func TestP14_2NoAckAndNoWordIsOwed(t *testing.T) {
	// A right word pays what is owed by the pace: if more were owed, it would go out.
	l := open(t, 2, 4)
	ticks(t, l, "", "", "")
}

// The greatest and the least of what New is said to take.
func TestP14_2Edges(t *testing.T) {
	for _, x := range []struct {
		me, other    int
		life         uint64
		window, most int
	}{
		{0, 1, 1, 1, 1}, {api.MaxTills, 0, api.MaxNumber, api.MaxWindow, api.MaxCap}, {7, api.MaxTills, 1, api.MaxWindow, 1},
	} {
		l := link.New(x.me, x.other, x.life, x.window, x.most)
		l.Hear(api.Frame{From: x.other, To: x.me, Mine: api.MaxNumber, Yours: x.life})
		knows(t, l, api.MaxNumber)
		for range x.window + 3 {
			sends(t, l, "b")
		}
		out := frames(t, l)
		if len(out) != x.window {
			t.Errorf("window %d: %d frames", x.window, len(out))
		}
		for i, f := range out {
			want := api.Frame{From: x.me, To: x.other, Mine: x.life, Yours: api.MaxNumber, Seq: uint64(i) + 1, Body: []byte("b")}
			if !sameFrame(f, want) {
				t.Errorf("%+v, want %+v", f, want)
			}
		}
	}
}

func TestP14_3Send(t *testing.T) {
	l := open(t, 4, 4)
	long := strings.Repeat("z", api.MaxBody)
	sends(t, l, "a", "", long)
	holds(t, l, 3)
	ticks(t, l, "1:a/0 2:/0 3:"+long+"/0")
}

func TestP14_3TooLong(t *testing.T) {
	l := open(t, 4, 4)
	for _, n := range []int{api.MaxBody + 1, api.MaxBody + 2, 1 << 20} {
		if e := l.Send(make([]byte, n)); e != api.ErrLinkLong {
			t.Errorf("Send of %d bytes: %d", n, e)
		}
	}
	holds(t, l, 0)
	ticks(t, l, "", "")
	sends(t, l, "a")
	ticks(t, l, "1:a/0", "1:a/0") // no number was used
	if e := l.Send(make([]byte, api.MaxBody+1)); e != api.ErrLinkLong {
		t.Errorf("Send: %d", e)
	}
	ticks(t, l, "", "1:a/0") // the pace has not begun anew
	hears(t, l, right(0, 1, ""), rightOnly)
	holds(t, l, 0)
}

// A refusal leaves the pace alone in an empty row, too.
func TestP14_3RefusedInAnEmptyRow(t *testing.T) {
	l := made(2, 8)
	ticks(t, l, "-/0", "-/0", "", "-/0")
	if e := l.Send(make([]byte, api.MaxBody+1)); e != api.ErrLinkLong {
		t.Errorf("Send: %d", e)
	}
	ticks(t, l, "", "", "", "-/0")
}

func TestP14_3NumbersAtTheirEnd(t *testing.T) {
	l := open(t, 4, 4)
	link.AtNumber(l, api.MaxNumber-1)
	sends(t, l, "last")
	for range 2 {
		if e := l.Send(nil); e != api.ErrLinkLong {
			t.Errorf("Send: %d", e)
		}
	}
	holds(t, l, 1)
	ticks(t, l, fmt.Sprintf("%d:last/0", uint64(api.MaxNumber)))
	hears(t, l, right(0, api.MaxNumber, ""), rightOnly)
	holds(t, l, 0)
	if e := l.Send(nil); e != api.ErrLinkLong { // an empty row does not help
		t.Errorf("Send: %d", e)
	}
	// In another session numbers begin anew.
	hears(t, l, api.Frame{From: server, To: till, Mine: otherLife + 1, Yours: tillLife}, link.Heard{Anew: true, Right: true})
	sends(t, l, "first")
	ticks(t, l, "1:first/0")
}

func TestP14_3PaceBeginsAnew(t *testing.T) {
	l := open(t, 2, 8)
	sends(t, l, "a")
	ticks(t, l, "1:a/0", "1:a/0", "", "1:a/0", "", "", "")
	sends(t, l, "b") // the row was not empty: the pace goes on
	ticks(t, l, "1:a/0 2:b/0", "", "", "")
	hears(t, l, right(0, 2, ""), rightOnly)
	ticks(t, l, "", "", "")
	sends(t, l, "c") // it was
	ticks(t, l, "3:c/0", "3:c/0", "", "3:c/0")
}

// The pace of a word that is owed begins anew, too, when a body comes into an empty row.
func TestP14_3PaceOfAWordBeginsAnew(t *testing.T) {
	l := made(2, 8)
	ticks(t, l, "-/0", "-/0", "", "-/0", "", "")
	sends(t, l, "a")
	ticks(t, l, "-/0", "-/0", "", "-/0")
	sends(t, l, "b")
	ticks(t, l, "", "", "", "-/0")
}

// A body that is handed in while the other's life is not known is numbered, too; Anew drops it.
func TestP14_3NotKnown(t *testing.T) {
	l := made(4, 4)
	sends(t, l, "a", "b")
	holds(t, l, 2)
	ticks(t, l, "-/0", "-/0")
	hears(t, l, right(0, 0, ""), link.Heard{Anew: true, Right: true})
	holds(t, l, 0)
	ticks(t, l, "", "")
	sends(t, l, "c")
	ticks(t, l, "1:c/0")

	l = made(4, 4)
	link.AtNumber(l, api.MaxNumber-1)
	sends(t, l, "a")
	if e := l.Send([]byte("b")); e != api.ErrLinkLong {
		t.Errorf("Send: %d", e)
	}
}

func TestP14_3Owe(t *testing.T) {
	l := open(t, 2, 4)
	l.Owe()
	l.Owe()
	ticks(t, l, "-/0", "", "")
	l.Owe() // a body pays what was asked for
	sends(t, l, "a")
	ticks(t, l, "1:a/0", "1:a/0", "")
	l.Owe() // no body goes out at this tick: it is not yet time
	hears(t, l, right(0, 1, ""), rightOnly)
	ticks(t, l, "-/0", "")
	l = made(2, 8)
	ticks(t, l, "-/0", "-/0", "", "-/0")
	l.Owe() // while the other's life is not known
	ticks(t, l, "-/0", "", "", "-/0")
}

func TestP14_4FramesThatDoNothing(t *testing.T) {
	for _, f := range []api.Frame{
		{From: server, To: till, Mine: 0, Yours: tillLife},
		{From: server, To: till, Mine: api.MaxNumber + 1, Yours: tillLife},
		{From: server, To: till, Mine: 9, Yours: api.MaxNumber + 1},
		{From: server, To: till, Mine: 9, Yours: tillLife, Ack: api.MaxNumber + 1},
		{From: server, To: till, Mine: 9, Yours: tillLife, Seq: api.MaxNumber + 1},
		{From: server, To: till, Mine: 9, Yours: tillLife, Body: []byte("a word with a body")},
		{From: server, To: till, Mine: 9, Yours: tillLife, Seq: 1, Body: make([]byte, api.MaxBody+1)},
		{From: 1, To: till, Mine: 9, Yours: tillLife},
		{From: till, To: till, Mine: 9, Yours: tillLife},
		{From: till, To: server, Mine: 9, Yours: tillLife},
		{From: server, To: 1, Mine: 9, Yours: tillLife},
		{From: server, To: server, Mine: 9, Yours: tillLife},
		{From: -1, To: till, Mine: 9, Yours: tillLife},
		{From: server, To: 9, Mine: 9, Yours: tillLife},
		{From: server, To: till, Mine: otherLife - 1, Yours: tillLife, Seq: 1, Body: []byte("of a former life")},
		{From: server, To: till, Mine: otherLife - 1, Yours: tillLife, Ack: 1},
		{From: server, To: till, Mine: otherLife - 1, Yours: 0},
		{From: server, To: till, Mine: 1, Yours: tillLife + 1},
	} {
		l := open(t, 2, 8)
		sends(t, l, "a")
		ticks(t, l, "1:a/0", "1:a/0")
		hears(t, l, f, nothing)
		knows(t, l, otherLife)
		holds(t, l, 1)
		ticks(t, l, "", "1:a/0", "", "", "", "1:a/0") // no ack, no word, the pace goes on
		hears(t, l, right(1, 1, "b"), handed("b"))
	}
}

func TestP14_4Anew(t *testing.T) {
	l := open(t, 2, 8)
	sends(t, l, "a", "b", "c")
	ticks(t, l, "1:a/0 2:b/0", "1:a/0 2:b/0", "")
	hears(t, l, right(1, 0, "x"), handed("x"))
	hears(t, l, right(2, 1, "y"), handed("y"))
	holds(t, l, 2)
	next := api.Frame{From: server, To: till, Mine: otherLife + 1, Yours: tillLife, Ack: 1}
	hears(t, l, next, link.Heard{Anew: true, Right: true}) // an ack of what has not gone out in this session
	knows(t, l, otherLife+1)
	holds(t, l, 0)
	ticks(t, l, "", "") // no ack is owed any more
	sends(t, l, "d")
	next.Ack = 1
	hears(t, l, next, rightOnly) // d has not gone out
	holds(t, l, 1)
	next.Seq, next.Body = 1, []byte("z")
	hears(t, l, next, handed("z")) // 1 is expected
	ticks(t, l, "1:d/1")
	hears(t, l, right(3, 1, "of a former life"), nothing)
	holds(t, l, 1)
}

// The greater life may come with a frame for a former life of this side, or for none.
func TestP14_4AnewNotRight(t *testing.T) {
	for _, yours := range []uint64{0, tillLife - 1, tillLife + 1} {
		l := open(t, 2, 8)
		sends(t, l, "a")
		hears(t, l, right(1, 0, "x"), handed("x"))
		ticks(t, l, "1:a/1", "1:a/1", "")
		f := api.Frame{From: server, To: till, Mine: otherLife + 2, Yours: yours, Seq: 1, Ack: 0, Body: []byte("y")}
		hears(t, l, f, anewOnly)
		knows(t, l, otherLife+2)
		holds(t, l, 0)
		// A word is owed by the pace, which begins anew; 1 is expected.
		ticks(t, l, "-/0", "-/0", "", "-/0", "", "", "", "-/0")
		f.Yours = tillLife
		hears(t, l, f, handed("y"))
		ticks(t, l, "-/1", "")
	}
}

// What was asked for stays in a new session; the ack that was owed does not.
func TestP14_4AnewKeepsWhatWasAskedFor(t *testing.T) {
	l := open(t, 2, 8)
	l.Owe()
	hears(t, l, api.Frame{From: server, To: till, Mine: otherLife + 1, Yours: tillLife}, link.Heard{Anew: true, Right: true})
	ticks(t, l, "-/0", "")
	hears(t, l, api.Frame{From: server, To: till, Mine: otherLife + 1, Yours: tillLife, Seq: 2}, rightOnly)
	hears(t, l, api.Frame{From: server, To: till, Mine: otherLife + 2, Yours: tillLife}, link.Heard{Anew: true, Right: true})
	ticks(t, l, "")
}

func TestP14_4NotMyLife(t *testing.T) {
	for _, yours := range []uint64{0, tillLife - 1, tillLife + 1, api.MaxNumber} {
		l := open(t, 2, 8)
		sends(t, l, "a")
		ticks(t, l, "1:a/0")
		f := api.Frame{From: server, To: till, Mine: otherLife, Yours: yours, Seq: 1, Ack: 1, Body: []byte("x")}
		hears(t, l, f, nothing)
		holds(t, l, 1)
		hears(t, l, right(0, 1, ""), rightOnly) // pays the word
		ticks(t, l, "", "")
		hears(t, l, f, nothing)                                // now the pace, which goes on, counts for the word
		ticks(t, l, "-/0", "", "-/0", "", "", "", "-/0")       // its times from the second one on: behind 2, 4 ..
		hears(t, l, right(1, 1, "x"), handed("x"))             // 1 has been expected
		ticks(t, l, "-/1", "", "", "", "", "", "", "", "", "") // an ack, and no word
	}
}

func TestP14_4Acks(t *testing.T) {
	l := open(t, 3, 1)
	sends(t, l, "a", "b", "c", "d")
	hears(t, l, right(0, 1, ""), rightOnly) // none has gone out
	holds(t, l, 4)
	ticks(t, l, "1:a/0 2:b/0 3:c/0")
	hears(t, l, right(0, 4, ""), rightOnly) // the fourth has not gone out: that ack counts for none
	holds(t, l, 4)
	hears(t, l, right(0, api.MaxNumber, ""), rightOnly)
	holds(t, l, 4)
	hears(t, l, right(0, 0, ""), rightOnly)
	holds(t, l, 4)
	hears(t, l, right(0, 2, ""), rightOnly)
	holds(t, l, 2)
	hears(t, l, right(0, 1, ""), rightOnly) // a former one
	holds(t, l, 2)
	ticks(t, l, "3:c/0 4:d/0")
	hears(t, l, right(0, 4, ""), rightOnly)
	holds(t, l, 0)
	ticks(t, l, "", "")
	sends(t, l, "e")
	hears(t, l, right(0, 4, ""), rightOnly)
	holds(t, l, 1)
	ticks(t, l, "5:e/0")
}

// An ack counts whatever body comes with it.
func TestP14_4AckWithABody(t *testing.T) {
	for _, x := range []struct {
		seq  uint64
		want link.Heard
		ack  string
	}{{1, handed("x"), "-/1"}, {2, rightOnly, "-/0"}} {
		l := open(t, 3, 1)
		sends(t, l, "a")
		ticks(t, l, "1:a/0")
		hears(t, l, right(x.seq, 1, "x"), x.want)
		holds(t, l, 0)
		ticks(t, l, x.ack, "")
	}
}

func TestP14_4HandedUpInOrder(t *testing.T) {
	l := open(t, 2, 4)
	hears(t, l, right(2, 0, "b"), rightOnly)
	ticks(t, l, "-/0", "") // an ack is owed for any body
	hears(t, l, right(1, 0, "a"), handed("a"))
	hears(t, l, right(1, 0, "a"), rightOnly)
	hears(t, l, right(3, 0, "c"), rightOnly)
	hears(t, l, right(2, 0, ""), handed(""))
	hears(t, l, right(3, 0, "c"), handed("c"))
	ticks(t, l, "-/3", "")
	hears(t, l, right(1, 0, "a"), rightOnly)
	ticks(t, l, "-/3", "")
	hears(t, l, right(0, 0, ""), rightOnly)
	ticks(t, l, "", "") // no ack is owed for a word
	hears(t, l, right(api.MaxNumber, 0, "far"), rightOnly)
	ticks(t, l, "-/3", "")
}

// The last number that there is, is handed up and acked; behind it nothing is.
func TestP14_4LastNumber(t *testing.T) {
	l := open(t, 2, 4)
	link.AtHanded(l, api.MaxNumber-1)
	hears(t, l, right(api.MaxNumber, 0, "z"), handed("z"))
	hears(t, l, right(api.MaxNumber, 0, "z"), rightOnly)
	hears(t, l, right(api.MaxNumber+1, 0, "z"), nothing)
	ticks(t, l, fmt.Sprintf("-/%d", uint64(api.MaxNumber)), "")
}

func TestP14_5Window(t *testing.T) {
	l := open(t, 2, 4)
	sends(t, l, "a", "b", "c", "d", "e")
	ticks(t, l, "1:a/0 2:b/0", "1:a/0 2:b/0", "")
	hears(t, l, right(0, 1, ""), rightOnly)
	ticks(t, l, "2:b/0 3:c/0", "") // it is time
	hears(t, l, right(0, 2, ""), rightOnly)
	ticks(t, l, "4:d/0") // those that have not gone out yet alone
	hears(t, l, right(0, 4, ""), rightOnly)
	holds(t, l, 1)
	ticks(t, l, "5:e/0")
	hears(t, l, right(0, 5, ""), rightOnly)
	ticks(t, l, "", "", "", "", "")
}

func TestP14_5PaceStandsStill(t *testing.T) {
	l := open(t, 2, 8)
	sends(t, l, "a")
	ticks(t, l, "1:a/0", "1:a/0") // not time for 1 further tick
	hears(t, l, right(0, 1, ""), rightOnly)
	ticks(t, l, "", "", "", "")
	hears(t, l, right(1, 0, "x"), handed("x"))
	ticks(t, l, "-/1", "") // an ack goes out while the pace stands still
	hears(t, l, api.Frame{From: server, To: till, Mine: otherLife}, nothing)
	ticks(t, l, "", "-/1", "", "", "", "-/1") // it goes on where it stood
}

func TestP14_5BodiesPayTheAck(t *testing.T) {
	l := open(t, 2, 8)
	sends(t, l, "a")
	ticks(t, l, "1:a/0")
	hears(t, l, right(1, 0, "x"), handed("x"))
	ticks(t, l, "1:a/1", "") // nothing but the body, and no word behind it
	hears(t, l, right(2, 0, "y"), handed("y"))
	ticks(t, l, "1:a/2", "") // (its time)
	hears(t, l, right(3, 0, "z"), handed("z"))
	ticks(t, l, "-/3", "") // not its time: a word
}

// A word that is owed by the pace is not paid by what goes out, but by right frames alone.
func TestP14_5WordsByThePace(t *testing.T) {
	l := open(t, 2, 2)
	hears(t, l, api.Frame{From: server, To: till, Mine: otherLife}, nothing)
	ticks(t, l, "-/0", "-/0", "", "-/0", "", "-/0")
	sends(t, l, "a")
	ticks(t, l, "1:a/0", "1:a/0", "", "1:a/0", "") // bodies in its place
	hears(t, l, right(0, 1, ""), rightOnly)
	ticks(t, l, "", "", "", "")
}

func TestP14_5Fields(t *testing.T) {
	l := made(2, 1)
	check := func(want ...api.Frame) {
		t.Helper()
		out := frames(t, l)
		if len(out) != len(want) {
			t.Fatalf("%+v, want %+v", out, want)
		}
		for i := range want {
			want[i].From, want[i].To, want[i].Mine = till, server, tillLife
			if !sameFrame(out[i], want[i]) {
				t.Errorf("%+v, want %+v", out[i], want[i])
			}
		}
	}
	check(api.Frame{})
	l.Hear(right(0, 0, ""))
	l.Owe()
	check(api.Frame{Yours: otherLife})
	l.Hear(right(1, 0, "x"))
	check(api.Frame{Yours: otherLife, Ack: 1})
	sends(t, l, "a", "", "c")
	check(api.Frame{Yours: otherLife, Seq: 1, Ack: 1, Body: []byte("a")}, api.Frame{Yours: otherLife, Seq: 2, Ack: 1})
	l.Hear(right(0, 2, ""))
	check(api.Frame{Yours: otherLife, Seq: 3, Ack: 1, Body: []byte("c")})
}

func TestP14_6(t *testing.T) {
	l := made(2, 4)
	knows(t, l, 0)
	hears(t, l, api.Frame{From: server, To: till, Mine: 1}, anewOnly) // known, though the frame is not right
	knows(t, l, 1)
	hears(t, l, api.Frame{From: server, To: till, Mine: api.MaxNumber, Yours: tillLife}, link.Heard{Anew: true, Right: true})
	knows(t, l, api.MaxNumber)
	for i := range 40 { // above the window, too
		holds(t, l, i)
		sends(t, l, "x")
	}
	holds(t, l, 40)
}

func TestExamples(t *testing.T) {
	a, b := made(2, 4), link.New(server, till, otherLife, 2, 4)
	f := frames(t, a)
	if len(f) != 1 || f[0].Mine != 3 || f[0].Yours != 0 || f[0].Seq != 0 {
		t.Fatalf("1: %+v", f)
	}
	hears(t, b, f[0], anewOnly)
	knows(t, b, 3)
	f = frames(t, b)
	if len(f) != 1 || f[0].Mine != 5 || f[0].Yours != 3 || f[0].Seq != 0 || f[0].Ack != 0 {
		t.Fatalf("1: %+v", f)
	}
	hears(t, a, f[0], link.Heard{Anew: true, Right: true})
	ticks(t, a, "")

	sends(t, a, "x", "y", "z")
	f = frames(t, a)
	if said(f) != "1:x/0 2:y/0" || f[0].Yours != 5 || f[1].Yours != 5 {
		t.Fatalf("2: %+v", f)
	}
	hears(t, b, f[1], rightOnly)
	hears(t, b, f[0], handed("x"))
	g := frames(t, b)
	if said(g) != "-/1" {
		t.Fatalf("2: %+v", g)
	}
	hears(t, a, g[0], rightOnly)
	holds(t, a, 2)
	ticks(t, a, "2:y/0 3:z/0", "")

	hears(t, b, f[1], handed("y"))
	ticks(t, b, "-/2", "")
	hears(t, b, f[1], rightOnly)
	ticks(t, b, "-/2", "")

	sends(t, b, "to life 3")
	again := link.New(till, server, 4, 2, 4)
	hears(t, b, frames(t, again)[0], anewOnly)
	holds(t, b, 0)
	hears(t, b, f[0], nothing)

	if e := a.Send(make([]byte, 2049)); e != api.ErrLinkLong {
		t.Errorf("5: %d", e)
	}
}
