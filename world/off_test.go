package world_test

import (
	"fmt"
	"testing"

	"till/api"
)

// scene is a world ahead of an event, which is made anew as often as it is needed.
type scene struct {
	name    string
	set     func(t *testing.T) *rig
	e       api.Event
	node    int
	strokes int // that the event makes
	long    bool
}

// talking is a world of which all nodes know one another, and nothing is on its way.
func talking(t *testing.T) *rig {
	t.Helper()
	r := newRig(t, conf())
	r.rounds(6)
	r.flush()
	return r
}

// asked is one in which till 0 has issued an ask, which is on its way; committed: its entry is on its way to both.
func asked(t *testing.T) *rig {
	t.Helper()
	r := talking(t)
	r.do(0, ask(down(3)), api.Loose, 1, false)
	r.tick(0)
	return r
}

func committed(t *testing.T) *rig {
	t.Helper()
	r := asked(t)
	r.deliver(0)
	r.tick(srv)
	return r
}

// due is one in which both tills hold rights, and are fenced at the server's next tick.
func due(t *testing.T) *rig {
	t.Helper()
	r := talking(t)
	r.do(0, ask(down(2)), api.Loose, 1, false)
	r.do(1, ask(api.Right{Way: api.Up, N: 1}), api.Loose, 1, false)
	r.rounds(6)
	r.silent()
	return r
}

// silent lets all tills say a word, and then none, till the server's next tick fences them.
func (r *rig) silent() {
	r.t.Helper()
	for range r.c.Beat {
		r.tick(0, 1)
	}
	r.flush()
	for range r.c.Watch - 1 {
		r.tick(srv)
		r.flush()
	}
}

// fenced is one in which the fence of till 0 is the next that it hears.
func fenced(t *testing.T) *rig {
	t.Helper()
	r := due(t)
	r.do(0, write(-1), api.Sure, 2, true)
	r.tick(srv)
	return r
}

func isDown(node int) func(t *testing.T) *rig {
	return func(t *testing.T) *rig {
		t.Helper()
		r := committed(t)
		r.crash(node)
		return r
	}
}

// long is one in which the journal of a node has as many transactions as it may.
func long(node, behind int) func(t *testing.T) *rig {
	return func(t *testing.T) *rig {
		t.Helper()
		r := talking(t)
		for range api.MaxRecords - 1 - behind {
			r.crash(node)
			r.restart(node)
		}
		r.rounds(12)
		r.flush()
		for n := range uint64(behind) {
			r.do(0, write(-1), api.Loose, n+1, false)
		}
		r.rounds(12)
		r.flush()
		return r
	}
}

func longDown(node int) func(t *testing.T) *rig {
	return func(t *testing.T) *rig {
		t.Helper()
		r := long(node, 0)(t)
		r.crash(node)
		return r
	}
}

// torn is one in which a till has fallen with a part of what it was to keep.
func torn(t *testing.T) *rig {
	t.Helper()
	r := talking(t)
	r.plays(api.Event{Kind: api.EventDo, Node: 0, Act: write(-1), Off: 1, Picks: []int{0, 9}}, api.Told{})
	return r
}

// twice is one in which a till has fallen in a checkpoint, whose file lies there.
func twice(t *testing.T) *rig {
	t.Helper()
	r := longDown(0)(t)
	r.plays(api.Event{Kind: api.EventRestart, Node: 0, Off: 3, Picks: []int{1, -1, -1}}, api.Told{})
	return r
}

func scenes() []scene {
	do := api.Event{Kind: api.EventDo, Node: 0, Act: write(-2, -1)}
	hear := api.Event{Kind: api.EventDeliver}
	return []scene{
		{"an act is issued", talking, do, 0, 2, false},
		{"the first act", func(t *testing.T) *rig { return newRig(t, conf()) }, do, 0, 2, false},
		{"a refusal", talking, api.Event{Kind: api.EventDo, Act: give(down(1))}, 0, 0, false},
		{"an act comes", asked, hear, srv, 2, false},
		{"an entry comes", committed, hear, 0, 2, false},
		{"an entry of another comes", committed, api.Event{Kind: api.EventDeliver, Index: 1}, 1, 2, false},
		{"a fence and its yield", fenced, hear, 0, 2, false},
		{"two fences", due, api.Event{Kind: api.EventTick, Node: srv}, srv, 4, false},
		{"a tick of a till", asked, api.Event{Kind: api.EventTick, Node: 1}, 1, 0, false},
		{"a tick of the server", asked, api.Event{Kind: api.EventTick, Node: srv}, srv, 0, false},
		{"a till starts", isDown(0), api.Event{Kind: api.EventRestart, Node: 0}, 0, 3, false},
		{"the server starts", isDown(srv), api.Event{Kind: api.EventRestart, Node: srv}, srv, 3, false},
		{"a till starts over a torn file", torn, api.Event{Kind: api.EventRestart, Node: 0}, 0, 4, false},
		{"a till's checkpoint", long(0, 0), do, 0, 4, true},
		{"a till's checkpoint at its start", longDown(0), api.Event{Kind: api.EventRestart, Node: 0}, 0, 4, true},
		{"a till's checkpoint behind another", twice, api.Event{Kind: api.EventRestart, Node: 0}, 0, 5, true},
		{"the server's checkpoint at its start", longDown(srv), api.Event{Kind: api.EventRestart, Node: srv}, srv, 4, true},
		{"the server's checkpoint at two fences", nearLong, api.Event{Kind: api.EventTick, Node: srv}, srv, 6, true},
	}
}

// nearLong is due, with a journal in which the first fence is the last that has a place.
func nearLong(t *testing.T) *rig {
	t.Helper()
	r := talking(t)
	for range api.MaxRecords - 4 {
		r.crash(srv)
		r.restart(srv)
	}
	r.rounds(12)
	r.do(0, ask(down(2)), api.Loose, 1, false)
	r.do(1, ask(down(1)), api.Loose, 1, false)
	r.rounds(6)
	r.silent()
	return r
}

// kept tells what the nodes keep.
func (r *rig) kept() string {
	s := text(r.Log())
	for n := range r.c.Tills {
		s += r.till(n)
	}
	return s
}

// others tells of the nodes, but one.
func (r *rig) others(but int) string {
	var s string
	for n := range r.c.Tills + 1 {
		if n != but {
			s += text([]any{n, r.Up(n), r.Life(n)}) + r.till(n)
		}
	}
	return s
}

// between are the kept states that a power failure may leave: the one ahead, those behind each entry, the one behind.
func (s scene) between(t *testing.T) []string {
	t.Helper()
	before, behind := s.set(t), s.set(t)
	behind.Step(s.e)
	out := []string{before.kept()}
	log := behind.Log()
	for n := len(before.Log()) + 1; n < len(log); n++ {
		part := text(log[:n])
		for till := range before.c.Tills {
			part += before.till(till)
		}
		out = append(out, part)
	}
	return append(out, behind.kept())
}

// P17.3 and P17.7: whatever an event does, the power goes off at each of its strokes, and whatever is left.
func TestP17_3EachStroke(t *testing.T) {
	for _, s := range scenes() {
		t.Run(s.name, func(t *testing.T) {
			picks := [][]int{nil, {-1, -1, -1}, {0, -1, -1}, {1, 9}, {1, 0, 30}, {2, 2, 2}, {-1, 5, -1}}
			if s.long {
				picks = picks[:3] // such a world takes its time
			}
			may := s.between(t)
			met := map[string]int{}
			for off := 1; off <= s.strokes; off++ {
				for _, p := range picks {
					met[s.falls(t, off, p, may)]++
				}
			}
			for _, k := range may {
				if s.strokes > 0 && met[k] == 0 {
					t.Errorf("%s is never left", k)
				}
			}
			for _, off := range []int{s.strokes + 1, 0, s.strokes + 2, 1 << 60, -1, -1 << 60} {
				if s.long && off != s.strokes+1 {
					continue
				}
				s.stays(t, off, []int{-1, 3})
			}
		})
	}
}

// falls plays the event with its power off at a stroke; it tells what is kept then.
func (s scene) falls(t *testing.T, off int, picks []int, may []string) string {
	t.Helper()
	r := s.set(t)
	others, life, flights := r.others(s.node), r.Life(s.node), r.Flights()
	e := s.e
	e.Off, e.Picks = off, picks
	r.plays(e, api.Told{})
	if e.Kind == api.EventDeliver {
		flights = append(flights[:e.Index:e.Index], flights[e.Index+1:]...)
	}
	if r.Up(s.node) || r.Life(s.node) != life || text(r.Flights()) != text(flights) || r.others(s.node) != others {
		t.Fatalf("off %d, %v: up %v, life %d, %d on their way", off, picks, r.Up(s.node), r.Life(s.node), r.Len())
	}
	kept := r.kept()
	is := false
	for _, k := range may {
		is = is || k == kept
	}
	if !is {
		t.Fatalf("off %d, %v: kept is %s\nof %q", off, picks, kept, may)
	}
	for _, kind := range []int{api.EventTick, api.EventCrash, api.EventDo} {
		r.refuses(api.Event{Kind: kind, Node: s.node, Act: write(-1)}, api.ErrWorldEvent)
	}
	r.restart(s.node)
	if r.kept() != kept || r.Life(s.node) <= life || r.Life(s.node) > life+2 {
		t.Fatalf("off %d, %v: life %d behind %d, kept\n%s\nwant\n%s", off, picks, r.Life(s.node), life, r.kept(), kept)
	}
	r.settles()
	return kept
}

// stays plays it with a plan that no stroke meets: all is as without it, also for all that comes later.
func (s scene) stays(t *testing.T, off int, picks []int) {
	t.Helper()
	r, want := s.set(t), s.set(t)
	e := s.e
	told, errno := want.Step(e)
	e.Off, e.Picks = off, picks
	if g, x := r.Step(e); g != told || x != errno {
		t.Fatalf("off %d: %+v, %d, want %+v, %d", off, g, x, told, errno)
	}
	for range 3 {
		if g := r.all(); g != want.all() {
			t.Fatalf("off %d: %s\nwant %s", off, g, want.all())
		}
		for _, x := range []*rig{r, want} {
			x.rounds(3)
			x.Step(api.Event{Kind: api.EventDo, Node: 0, Act: write(-1)})
			x.Step(api.Event{Kind: api.EventDo, Node: 1, Act: write(1)})
		}
	}
}

// settles: in a calm all comes to its end.
func (r *rig) settles() {
	r.t.Helper()
	for n := range r.c.Tills + 1 {
		if !r.Up(n) {
			r.restart(n)
		}
	}
	r.rounds(120)
	log := r.Log()
	for n := range r.c.Tills {
		if text(r.Taken(n)) != text(log) || len(r.Pending(n)) > 0 {
			r.t.Fatalf("till %d has %d of %d entries, %d acts are pending", n, len(r.Taken(n)), len(log), len(r.Pending(n)))
		}
	}
}

// A plan that was not met is forgotten: the strokes of later events do not meet it.
func TestP17_3Forgotten(t *testing.T) {
	for off := 3; off < 12; off++ {
		r := talking(t)
		r.plays(api.Event{Kind: api.EventDo, Node: 0, Act: write(-1), Off: off}, api.Told{Number: 1})
		for n := range uint64(8) {
			r.do(0, write(-1), api.Loose, n+2, false)
		}
		r.plays(api.Event{Kind: api.EventTick, Node: 0, Off: off}, api.Told{})
		r.plays(api.Event{Kind: api.EventDeliver, Off: off}, api.Told{})
		r.rounds(12)
		r.crash(1)
		r.plays(api.Event{Kind: api.EventRestart, Node: 1, Off: off + 1}, api.Told{})
		r.do(1, write(-1), api.Loose, 1, false)
		r.refuses(api.Event{Kind: api.EventDo, Node: 1, Act: give(down(1)), Off: 1}, api.ErrDraftRights)
		r.do(1, write(-1), api.Loose, 2, false)
		for n := range 3 {
			if !r.Up(n) {
				t.Fatalf("off %d: node %d has met a plan that is over", off, n)
			}
		}
	}
}

// An Off is of the node that the event runs: those of others have none.
func TestP17_3Whose(t *testing.T) {
	r := asked(t)
	r.plays(api.Event{Kind: api.EventDeliver, Off: 1, Picks: []int{0, -1}}, api.Told{})
	if fmt.Sprint(r.Up(0), r.Up(1), r.Up(2)) != "true true false" {
		t.Errorf("%v %v %v", r.Up(0), r.Up(1), r.Up(2))
	}
	r.do(0, write(-1), api.Loose, 2, false)
	if len(r.Log()) != 1 {
		t.Errorf("%+v", r.Log()) // the pick has kept all of it
	}
}

// A life in which a node has not been up is none that Life tells.
func TestP17_4LifeOfAStartThatFell(t *testing.T) {
	for _, node := range []int{0, srv} {
		r := newRig(t, conf())
		r.crash(node)
		for _, x := range []struct {
			off   int
			picks []int
		}{{1, nil}, {1, []int{0, -1}}, {2, []int{0, -1}}, {3, nil}} {
			r.plays(api.Event{Kind: api.EventRestart, Node: node, Off: x.off, Picks: x.picks}, api.Told{})
			if r.Up(node) || r.Life(node) != 1 {
				t.Errorf("node %d: up %v, life %d", node, r.Up(node), r.Life(node))
			}
		}
		r.restart(node)
		if r.Life(node) != 5 { // three of the four have kept theirs
			t.Errorf("node %d: life %d", node, r.Life(node))
		}
	}
}
