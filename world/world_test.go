package world_test

import (
	"fmt"
	"math"
	"testing"

	"till/act"
	"till/api"
	"till/book"
	"till/draft"
	"till/link"
	"till/world"
)

// conf is the configuration of the chapter's examples: the server is 2.
func conf() api.Config {
	return api.Config{Tills: 2, Counters: []api.Counter{{Name: "tea", Hi: 10, Start: 4}}, Lease: 20, Watch: 30, Beat: 4, Window: 2, Cap: 4, Flight: 50}
}

const srv = 2

// text tells anything, nil and empty lists alike.
func text(x any) string { return fmt.Sprintf("%+v", x) }

// rig is a world whose events are looked at.
type rig struct {
	*world.World
	t *testing.T
	c api.Config
}

func newRig(t *testing.T, c api.Config) *rig {
	t.Helper()
	w, errno := world.New(c)
	if errno != api.OK || w == nil {
		t.Fatalf("New: %v, %d", w, errno)
	}
	return &rig{World: w, t: t, c: c}
}

// plays: the event can be, and tells this.
func (r *rig) plays(e api.Event, want api.Told) {
	r.t.Helper()
	if told, errno := r.Step(e); errno != api.OK || told != want {
		r.t.Fatalf("Step(%+v): %+v, %d, want %+v", e, told, errno, want)
	}
}

// refuses: the error, and nothing has changed.
func (r *rig) refuses(e api.Event, want api.Errno) {
	r.t.Helper()
	before := r.all()
	if told, errno := r.Step(e); errno != want || told != (api.Told{}) {
		r.t.Fatalf("Step(%+v): %+v, %d, want %d", e, told, errno, want)
	}
	if g := r.all(); g != before {
		r.t.Fatalf("Step(%+v) was refused, and has changed\n%s\nto\n%s", e, before, g)
	}
}

func (r *rig) deliver(i int) {
	r.t.Helper()
	r.plays(api.Event{Kind: api.EventDeliver, Index: i}, api.Told{})
}

func (r *rig) tick(nodes ...int) {
	r.t.Helper()
	for _, n := range nodes {
		r.plays(api.Event{Kind: api.EventTick, Node: n}, api.Told{})
	}
}

func (r *rig) crash(node int, picks ...int) {
	r.t.Helper()
	r.plays(api.Event{Kind: api.EventCrash, Node: node, Picks: picks}, api.Told{})
}

func (r *rig) restart(node int) {
	r.t.Helper()
	r.plays(api.Event{Kind: api.EventRestart, Node: node}, api.Told{})
}

func (r *rig) do(till int, a api.Act, takes int, number uint64, sure bool) {
	r.t.Helper()
	r.plays(api.Event{Kind: api.EventDo, Node: till, Act: a, Takes: takes}, api.Told{Number: number, Sure: sure})
}

// flush delivers all that is on its way; round, and lets all tick behind it.
func (r *rig) flush() {
	r.t.Helper()
	for r.Len() > 0 {
		r.deliver(0)
	}
}

func (r *rig) rounds(n int) {
	r.t.Helper()
	for range n {
		r.flush()
		for k := range r.c.Tills + 1 {
			if r.Up(k) {
				r.tick(k)
			}
		}
	}
}

// all is everything that a world tells.
func (r *rig) all() string {
	s := text([]any{r.Len(), r.Lost(), r.Flights(), r.Log(), r.State()})
	for n := -1; n <= r.c.Tills+1; n++ {
		s += text([]any{r.Up(n), r.Life(n)}) + r.till(n)
	}
	return s
}

func (r *rig) till(n int) string {
	return text([]any{"\n", r.Taken(n), r.Pending(n), r.Base(n), r.View(n)})
}

func down(n int64) api.Right { return api.Right{Way: api.Down, N: n} }

func ask(x api.Right) api.Act { return api.Act{Kind: api.ActAsk, Right: x} }

func give(x api.Right) api.Act { return api.Act{Kind: api.ActGive, Right: x} }

func pass(to int, x api.Right) api.Act { return api.Act{Kind: api.ActPass, Right: x, To: to} }

func write(changes ...int64) api.Act {
	a := api.Act{Kind: api.ActWrite}
	for _, n := range changes {
		a.Lines = append(a.Lines, api.Line{Change: n})
	}
	return a
}

// as gives an act its head.
func as(till int, number uint64, a api.Act) api.Act {
	a.Till, a.Number = till, number
	return a
}

// holds holds what a till tells against what it must have.
func (r *rig) holds(till int, taken []api.Entry, pending ...api.Act) {
	r.t.Helper()
	if g := r.Taken(till); text(g) != text(taken) {
		r.t.Fatalf("Taken(%d): %+v\nwant %+v", till, g, taken)
	}
	if g := r.Pending(till); text(g) != text(pending) {
		r.t.Fatalf("Pending(%d): %+v\nwant %+v", till, g, pending)
	}
	d, errno := draft.Load(r.c, till, taken, pending)
	if errno != api.OK {
		r.t.Fatalf("Load: %d", errno)
	}
	if text(r.Base(till)) != text(d.Base()) || text(r.View(till)) != text(d.View()) {
		r.t.Fatalf("till %d: Base %+v\nView %+v", till, r.Base(till), r.View(till))
	}
}

// row makes the entries of acts, one behind the other.
func (r *rig) row(acts ...api.Act) []api.Entry {
	r.t.Helper()
	var out []api.Entry
	s := book.First(r.c)
	for _, a := range acts {
		e := book.Next(r.c, s, a)
		next, errno := book.Fold(r.c, s, e)
		if errno != api.OK {
			r.t.Fatalf("%+v: %d", a, errno)
		}
		s, out = next, append(out, e)
	}
	return out
}

func (r *rig) logs(want ...api.Entry) {
	r.t.Helper()
	s := book.First(r.c)
	for _, e := range want {
		s, _ = book.Fold(r.c, s, e)
	}
	if g := r.Log(); text(g) != text(want) || text(r.State()) != text(s) {
		r.t.Fatalf("Log: %+v\nwant %+v\nState: %+v", g, want, r.State())
	}
}

// flies tells a message on its way: from, to, both lives, number and ack, and what its body is.
func (r *rig) flies(i int) string {
	r.t.Helper()
	m := r.Flights()[i]
	f, ok := link.DecodeFrame(m.Bytes)
	if !ok || f.To != m.To {
		r.t.Fatalf("flight %d: %+v", i, m)
	}
	head := fmt.Sprintf("%d>%d %d:%d %d/%d", f.From, f.To, f.Mine, f.Yours, f.Seq, f.Ack)
	if f.Seq == 0 {
		return head
	}
	x, errno := act.Read(r.c, f.Body)
	if errno != api.OK {
		r.t.Fatalf("flight %d: %d", i, errno)
	}
	return fmt.Sprintf("%s %d.%d.%d.%d", head, x.Kind, x.Position, x.Act.Number, x.Entry.Position)
}

func (r *rig) fly(want ...string) {
	r.t.Helper()
	var got []string
	for i := range r.Flights() {
		got = append(got, r.flies(i))
	}
	if text(got) != text(want) || r.Len() != len(want) {
		r.t.Fatalf("%d are on their way: %q\nwant %q", r.Len(), got, want)
	}
}

// The chapter's examples.
func TestP17Examples(t *testing.T) {
	r := newRig(t, conf())
	for n := range 3 {
		if !r.Up(n) || r.Life(n) != 1 {
			t.Errorf("node %d: %v, %d", n, r.Up(n), r.Life(n))
		}
	}
	if r.Up(3) || r.Len() != 0 || text(r.Base(0)) != text(book.First(r.c)) {
		t.Errorf("New: %s", r.all())
	}
	r.logs()
	r.tick(srv)
	r.fly("2>0 1:0 0/0", "2>1 1:0 0/0")
	r.deliver(0)
	r.fly("2>1 1:0 0/0")
	r.tick(0)
	r.fly("2>1 1:0 0/0", "0>2 1:1 1/0 1.0.0.0")
	r.do(0, ask(down(3)), api.Loose, 1, false)
	r.holds(0, nil, as(0, 1, ask(down(3))))
	r.logs()
	r.refuses(api.Event{Kind: api.EventDrop, Index: 99}, api.ErrWorldEvent)
	r.refuses(api.Event{Kind: api.EventTick, Node: 3}, api.ErrWorldEvent)
	r.refuses(api.Event{Kind: api.EventDo, Node: srv, Act: ask(down(3))}, api.ErrWorldEvent)
	r.refuses(api.Event{Kind: api.EventInject, Node: srv, Bytes: r.Flights()[0].Bytes}, api.ErrWorldEvent)
	r.refuses(api.Event{Kind: 9}, api.ErrWorldEvent)
	r.plays(api.Event{Kind: api.EventInject, Node: srv, Bytes: []byte{7}}, api.Told{})
	if r.Len() != 3 || text(r.Flights()[2]) != text(api.Flight{To: srv, Bytes: []byte{7}}) {
		t.Errorf("%+v", r.Flights())
	}
	before := r.Flights()[:2]
	log, one := text(r.Log()), r.till(0)
	r.deliver(2)
	if text(r.Flights()) != text(before) || text(r.Log()) != log || r.till(0) != one {
		t.Errorf("a byte that is none has done something: %s", r.all())
	}

	r = newRig(t, conf())
	r.plays(api.Event{Kind: api.EventDo, Node: 0, Act: ask(down(3)), Off: 1}, api.Told{})
	r.holds(0, nil)
	if r.Up(0) || !r.Up(1) {
		t.Errorf("Up: %v, %v", r.Up(0), r.Up(1))
	}
	r.refuses(api.Event{Kind: api.EventTick, Node: 0}, api.ErrWorldEvent)
	r.restart(0)
	if !r.Up(0) || r.Life(0) != 2 {
		t.Errorf("%v, life %d", r.Up(0), r.Life(0))
	}
}

func TestP17_1New(t *testing.T) {
	for _, x := range []func(c *api.Config){
		func(c *api.Config) { *c = api.Config{} },
		func(c *api.Config) { c.Tills = 0 },
		func(c *api.Config) { c.Tills = 9 },
		func(c *api.Config) { c.Counters = nil },
		func(c *api.Config) { c.Counters[0].Start = 11 },
		func(c *api.Config) { c.Prices = []api.Price{{Name: "tea", Start: -1}} },
		func(c *api.Config) { c.Lease = 0 },
		func(c *api.Config) { c.Watch = 7 },
		func(c *api.Config) { c.Window = 17 },
		func(c *api.Config) { c.Cap = 65 },
		func(c *api.Config) { c.Flight = 0 },
		func(c *api.Config) { c.Flight = api.MaxFlight + 1 },
	} {
		c := conf()
		x(&c)
		if w, errno := world.New(c); w != nil || errno != api.ErrWorldConfig {
			t.Errorf("New(%+v): %v, %d", c, w, errno)
		}
	}
	for _, tills := range []int{1, 2, 8} {
		for _, flight := range []int{1, 3, api.MaxFlight} {
			c := conf()
			c.Tills, c.Flight = tills, flight
			r := newRig(t, c)
			if r.Len() != 0 || r.Lost() != 0 || len(r.Flights()) != 0 {
				t.Errorf("%d, %d, %v", r.Len(), r.Lost(), r.Flights())
			}
			r.logs()
			for n := range tills + 1 {
				if !r.Up(n) || r.Life(n) != 1 {
					t.Errorf("node %d of %d: %v, %d", n, tills, r.Up(n), r.Life(n))
				}
			}
			for n := range tills {
				r.holds(n, nil)
			}
			r.noNode(-1)
			r.noNode(tills + 1)
			r.noNode(math.MinInt)
			r.noNode(math.MaxInt)
			r.tick(tills) // the server says a word to each
			if r.Len() != min(tills, flight) || r.Lost() != uint64(tills-r.Len()) {
				t.Errorf("%d on their way, %d lost, of %d with room for %d", r.Len(), r.Lost(), tills, flight)
			}
		}
	}
}

// noNode: nothing is told of such a node, and no event can be at it.
func (r *rig) noNode(n int) {
	r.t.Helper()
	if r.Up(n) || r.Life(n) != 0 {
		r.t.Errorf("node %d: %v, %d", n, r.Up(n), r.Life(n))
	}
	r.noTill(n)
	for _, kind := range []int{api.EventTick, api.EventCrash, api.EventRestart, api.EventDo, api.EventInject} {
		r.refuses(api.Event{Kind: kind, Node: n, Act: ask(down(1)), Bytes: []byte{7}, Off: 1}, api.ErrWorldEvent)
	}
}

func (r *rig) noTill(n int) {
	r.t.Helper()
	if g := r.till(n); g != text([]any{"\n", []api.Entry{}, []api.Act{}, api.State{}, api.State{}}) {
		r.t.Errorf("of %d, which is no till: %s", n, g)
	}
}

func TestP17_2Kinds(t *testing.T) {
	r := newRig(t, conf())
	r.tick(srv)
	for _, kind := range []int{api.EventNone, -1, 9, 10, math.MinInt, math.MaxInt} {
		r.refuses(api.Event{Kind: kind, Act: ask(down(1)), Bytes: []byte{7}}, api.ErrWorldEvent)
	}
}

func TestP17_2Deliver(t *testing.T) {
	r := newRig(t, conf())
	r.refuses(api.Event{Kind: api.EventDeliver}, api.ErrWorldEvent)
	r.tick(srv, 0)
	r.fly("2>0 1:0 0/0", "2>1 1:0 0/0", "0>2 1:0 0/0")
	for _, i := range []int{-1, 3, math.MinInt, math.MaxInt} {
		r.refuses(api.Event{Kind: api.EventDeliver, Index: i}, api.ErrWorldEvent)
	}
	r.deliver(2) // the server hears it, and not another
	r.fly("2>0 1:0 0/0", "2>1 1:0 0/0")
	r.tick(srv, 0)
	r.fly("2>0 1:0 0/0", "2>1 1:0 0/0", "2>0 1:1 0/0", "2>1 1:0 0/0", "0>2 1:0 0/0")
	r.deliver(1) // till 1
	r.tick(1)
	r.deliver(1) // till 0
	r.tick(0)
	r.fly("2>0 1:0 0/0", "2>1 1:0 0/0", "0>2 1:0 0/0", "1>2 1:1 1/0 1.0.0.0", "0>2 1:1 1/0 1.0.0.0")
}

// Fields that an event does not use are not looked at.
func TestP17_2OtherFields(t *testing.T) {
	r := newRig(t, conf())
	r.plays(api.Event{Kind: api.EventTick, Node: srv, Index: -5, Act: api.Act{Kind: 99}, Takes: 77, Bytes: []byte{1}, Picks: []int{3}}, api.Told{})
	r.fly("2>0 1:0 0/0", "2>1 1:0 0/0")
	r.plays(api.Event{Kind: api.EventDouble, Index: 1, Node: 99, Off: 1, Takes: 77}, api.Told{})
	r.plays(api.Event{Kind: api.EventDrop, Index: 0, Node: -99, Off: 1, Takes: 77}, api.Told{})
	r.plays(api.Event{Kind: api.EventDeliver, Index: 0, Node: 99, Act: api.Act{Kind: 99}}, api.Told{})
	r.fly("2>1 1:0 0/0")
	r.plays(api.Event{Kind: api.EventDo, Node: 0, Index: 99, Bytes: []byte{1}, Act: ask(down(1)), Takes: 77}, api.Told{Number: 1})
	r.plays(api.Event{Kind: api.EventInject, Node: 0, Index: 99, Bytes: []byte{1}, Off: 1}, api.Told{})
	r.plays(api.Event{Kind: api.EventCrash, Node: 0, Index: 99, Off: 1}, api.Told{})
	r.plays(api.Event{Kind: api.EventRestart, Node: 0, Index: 99, Takes: 5, Picks: []int{3}}, api.Told{})
	r.holds(0, nil, as(0, 1, ask(down(1))))
	for n := range 3 {
		if !r.Up(n) {
			t.Errorf("node %d is down", n)
		}
	}
}

func TestP17_2DeliverToOneThatIsDown(t *testing.T) {
	r := newRig(t, conf())
	r.tick(srv)
	r.crash(0)
	for _, off := range []int{0, 1} {
		r.plays(api.Event{Kind: api.EventDouble, Index: 0}, api.Told{})
		r.plays(api.Event{Kind: api.EventDeliver, Index: 0, Off: off}, api.Told{})
		r.fly([]string{"2>1 1:0 0/0", "2>0 1:0 0/0"}...)
		r.plays(api.Event{Kind: api.EventDouble, Index: 0}, api.Told{})
		r.plays(api.Event{Kind: api.EventDrop, Index: 0}, api.Told{})
	}
	r.restart(0)
	r.tick(0)
	r.fly("2>0 1:0 0/0", "2>1 1:0 0/0", "0>2 2:0 0/0") // what it didn't hear in its other life it doesn't know
}

func TestP17_2DropAndDouble(t *testing.T) {
	c := conf()
	c.Flight = 4
	r := newRig(t, c)
	r.refuses(api.Event{Kind: api.EventDrop}, api.ErrWorldEvent)
	r.refuses(api.Event{Kind: api.EventDouble}, api.ErrWorldEvent)
	r.tick(srv, 0)
	r.plays(api.Event{Kind: api.EventDouble, Index: 1}, api.Told{})
	r.fly("2>0 1:0 0/0", "2>1 1:0 0/0", "0>2 1:0 0/0", "2>1 1:0 0/0")
	for i := range 4 { // no room
		r.refuses(api.Event{Kind: api.EventDouble, Index: i}, api.ErrWorldEvent)
	}
	r.plays(api.Event{Kind: api.EventDrop, Index: 2}, api.Told{})
	r.fly("2>0 1:0 0/0", "2>1 1:0 0/0", "2>1 1:0 0/0")
	for _, i := range []int{-1, 3, math.MinInt, math.MaxInt} {
		r.refuses(api.Event{Kind: api.EventDrop, Index: i}, api.ErrWorldEvent)
		r.refuses(api.Event{Kind: api.EventDouble, Index: i}, api.ErrWorldEvent)
	}
	r.tick(srv)
	r.fly("2>0 1:0 0/0", "2>1 1:0 0/0", "2>1 1:0 0/0", "2>0 1:0 0/0") // the word to 1 had no room
	if r.Lost() != 1 {
		t.Errorf("%d lost", r.Lost())
	}
	for range 4 {
		r.plays(api.Event{Kind: api.EventDrop}, api.Told{})
	}
	r.tick(srv) // not yet the server's time to say it again
	r.fly()
	if r.Lost() != 1 {
		t.Errorf("%d lost", r.Lost())
	}
}

func TestP17_2Tick(t *testing.T) {
	r := newRig(t, conf())
	for n := range 3 {
		r.crash(n)
		r.refuses(api.Event{Kind: api.EventTick, Node: n}, api.ErrWorldEvent)
		r.restart(n)
		r.tick(n)
	}
	r.fly("0>2 2:0 0/0", "1>2 2:0 0/0", "2>0 2:0 0/0", "2>1 2:0 0/0")
}

func TestP17_2Crash(t *testing.T) {
	r := newRig(t, conf())
	r.rounds(4)
	r.do(0, ask(down(3)), api.Loose, 1, false)
	r.do(1, write(-1), api.Loose, 1, false)
	r.tick(0)
	log := r.row(as(0, 1, ask(down(3))))
	r.flush()
	r.logs(log...)
	for n := range 3 {
		before := r.Flights()
		r.crash(n, -1, 4)
		if r.Up(n) || r.Life(n) != 1 || text(r.Flights()) != text(before) {
			t.Errorf("%d is up: %v, life %d", n, r.Up(n), r.Life(n))
		}
		r.refuses(api.Event{Kind: api.EventCrash, Node: n, Picks: []int{1, 1}}, api.ErrWorldEvent)
		r.refuses(api.Event{Kind: api.EventDo, Node: n, Act: write(-1)}, api.ErrWorldEvent)
	}
	r.logs(log...)
	r.holds(0, nil, as(0, 1, ask(down(3))))
	r.holds(1, nil, as(1, 1, write(-1)))
	for n := range 3 {
		r.restart(n)
		r.refuses(api.Event{Kind: api.EventRestart, Node: n}, api.ErrWorldEvent)
		if !r.Up(n) || r.Life(n) != 2 {
			t.Errorf("%d is up: %v, life %d", n, r.Up(n), r.Life(n))
		}
	}
	r.logs(log...)
	r.holds(0, nil, as(0, 1, ask(down(3))))
	r.rounds(9)
	log = r.row(as(0, 1, ask(down(3))), as(1, 1, write(-1)))
	r.logs(log...)
	r.holds(0, log)
	r.holds(1, log)
	r.noTill(srv)
}

func TestP17_2Do(t *testing.T) {
	r := newRig(t, conf())
	for n := -1; n <= 3; n++ {
		if n != 0 && n != 1 {
			r.refuses(api.Event{Kind: api.EventDo, Node: n, Act: write(-1)}, api.ErrWorldEvent)
		}
	}
	r.refuses(api.Event{Kind: api.EventDo, Act: write(-1), Takes: api.Sure}, api.ErrDraftRights)
	r.refuses(api.Event{Kind: api.EventDo, Act: give(down(1))}, api.ErrDraftRights)
	r.refuses(api.Event{Kind: api.EventDo, Act: write(0)}, api.ErrActLine)
	r.refuses(api.Event{Kind: api.EventDo, Act: api.Act{Kind: api.ActYield}}, api.ErrActKind)
	r.refuses(api.Event{Kind: api.EventDo, Act: pass(2, down(1)), Off: 1}, api.ErrActRight)
	r.do(0, write(-1), api.Best, 1, false)
	r.do(0, ask(down(2)), api.Sure, 2, false)
	r.do(1, write(1), api.Loose, 1, false)
	r.holds(0, nil, as(0, 1, write(-1)), as(0, 2, ask(down(2))))
	r.holds(1, nil, as(1, 1, write(1)))
	r.rounds(8)
	r.do(0, write(-1), api.Sure, 3, true)
	r.do(0, write(-1), api.Best, 4, true)
	r.refuses(api.Event{Kind: api.EventDo, Act: write(-1), Takes: api.Sure}, api.ErrDraftRights)
	r.do(0, write(-1), api.Best, 5, false)
	for n := uint64(6); n <= 66; n++ {
		r.do(0, write(-1), api.Loose, n, false)
	}
	r.refuses(api.Event{Kind: api.EventDo, Act: write(-1)}, api.ErrDraftFull)
}

func TestP17_2Inject(t *testing.T) {
	c := conf()
	c.Flight = 3
	r := newRig(t, c)
	frame := link.EncodeFrame(api.Frame{From: 0, To: srv, Mine: 1})
	r.crash(1)
	for n := range 3 {
		r.refuses(api.Event{Kind: api.EventInject, Node: n, Bytes: frame}, api.ErrWorldEvent)
	}
	turned := append([]byte(nil), frame...)
	turned[3]++
	for n, b := range [][]byte{nil, frame[1:], turned} { // also to one that is down
		r.plays(api.Event{Kind: api.EventInject, Node: n, Bytes: b}, api.Told{})
	}
	if g := r.Flights(); text(g) != text([]api.Flight{{To: 0}, {To: 1, Bytes: frame[1:]}, {To: 2, Bytes: turned}}) {
		t.Errorf("%+v", g)
	}
	r.plays(api.Event{Kind: api.EventInject, Node: 0, Bytes: make([]byte, 5000)}, api.Told{})
	if r.Len() != 3 || r.Lost() != 1 {
		t.Errorf("%d, %d lost", r.Len(), r.Lost())
	}
	before := r.all()
	r.flush()
	r.plays(api.Event{Kind: api.EventInject, Node: 0}, api.Told{})
	r.plays(api.Event{Kind: api.EventInject, Node: 1, Bytes: frame[1:]}, api.Told{})
	r.plays(api.Event{Kind: api.EventInject, Node: 2, Bytes: turned}, api.Told{})
	if g := r.all(); g != before {
		t.Errorf("bytes that are no frame have done something: %s\nwant %s", g, before)
	}
}

// A message of a life that is over does nothing; one that is late is told the new life.
func TestP17_2OldMessages(t *testing.T) {
	r := newRig(t, conf())
	r.rounds(4)
	r.flush()
	r.do(0, write(-1), api.Loose, 1, false)
	r.tick(0)
	r.fly("0>2 1:1 2/0 2.0.1.0")
	r.plays(api.Event{Kind: api.EventDouble}, api.Told{})
	r.crash(0)
	r.restart(0)
	r.tick(0)
	r.fly("0>2 1:1 2/0 2.0.1.0", "0>2 1:1 2/0 2.0.1.0", "0>2 2:0 0/0")
	r.deliver(2)
	r.deliver(0)
	r.deliver(0)
	r.logs()
	r.rounds(6)
	r.logs(r.row(as(0, 1, write(-1)))...)
}
