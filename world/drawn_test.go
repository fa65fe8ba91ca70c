package world_test

import (
	"math/rand"
	"slices"
	"testing"

	"till/api"
	"till/book"
	"till/draft"
)

// walk is a world with the model of it, and with all that was answered.
type walk struct {
	*rig
	chance
	m      *model
	issued map[api.Head]string
	sure   map[api.Head]bool
	had    had
	count  map[string]int
}

// had is what a world told ahead of an event.
type had struct {
	log     []api.Entry
	taken   [][]api.Entry
	pending [][]api.Act
	lives   []uint64
	up      []bool
}

func (r *rig) has() had {
	h := had{log: r.Log()}
	for n := range r.c.Tills + 1 {
		h.taken, h.pending = append(h.taken, r.Taken(n)), append(h.pending, r.Pending(n))
		h.lives, h.up = append(h.lives, r.Life(n)), append(h.up, r.Up(n))
	}
	return h
}

func newWalk(t *testing.T, draw chance, c api.Config) *walk {
	w := &walk{rig: newRig(t, c), chance: draw, m: newModel(c), issued: map[api.Head]string{}, sure: map[api.Head]bool{}, count: map[string]int{}}
	w.had = w.has()
	return w
}

// play plays an event in both, and looks at what follows of it.
func (w *walk) play(e api.Event) {
	w.t.Helper()
	fell := w.m.fell
	told, errno := w.Step(e)
	want, wantErrno := w.m.step(e)
	if told != want || errno != wantErrno {
		w.t.Fatalf("%+v: %+v, %d, want %+v, %d", e, told, errno, want, wantErrno)
	}
	w.note(e, told, errno, w.m.fell > fell)
	now := w.has()
	w.stepByStep(e, errno, now)
	w.stands(e, w.m.fell > fell, now)
	w.had = now
}

// note counts what was met, and remembers what was answered.
func (w *walk) note(e api.Event, told api.Told, errno api.Errno, fell bool) {
	w.t.Helper()
	kinds := []string{"none", "deliver", "drop", "double", "tick", "crash", "restart", "do", "inject"}
	switch {
	case fell:
		w.count["off "+kinds[e.Kind]]++
	case errno == api.OK:
		w.count[kinds[e.Kind]]++
	case errno == api.ErrWorldEvent:
		w.count["wrong"]++
	default:
		w.count["refused"]++
	}
	if told.Number == 0 {
		return
	}
	pending := w.Pending(e.Node)
	a := pending[len(pending)-1]
	issued := as(e.Node, told.Number, e.Act)
	issued.Sure = told.Sure
	if text(a) != text(issued) || w.issued[a.Head] != "" {
		w.t.Fatalf("%+v, answered %+v: %+v", e, told, a)
	}
	w.issued[a.Head], w.sure[a.Head] = text(a), a.Sure
}

// stepByStep: P17.6.
func (w *walk) stepByStep(e api.Event, errno api.Errno, now had) {
	w.t.Helper()
	if w.Len() > w.c.Flight {
		w.t.Fatalf("%d are on their way", w.Len())
	}
	most := map[int]int{api.EventDeliver: 1, api.EventTick: w.c.Tills}[e.Kind]
	if !begins(now.log, w.had.log, most) {
		w.t.Fatalf("%+v: the log is %+v\nwas %+v", e, now.log, w.had.log)
	}
	changed := 0
	for n := range w.c.Tills {
		if !begins(now.taken[n], w.had.taken[n], 1) {
			w.t.Fatalf("%+v: till %d has taken %+v\nhad %+v", e, n, now.taken[n], w.had.taken[n])
		}
		if len(now.taken[n]) != len(w.had.taken[n]) || text(now.pending[n]) != text(w.had.pending[n]) {
			changed++
		}
	}
	if changed > 1 || errno != api.OK && changed > 0 {
		w.t.Fatalf("%+v: %d tills have changed", e, changed)
	}
}

// begins tells whether a row is an older one with so many more at most.
func begins(row, older []api.Entry, most int) bool {
	more := len(row) - len(older)
	return more >= 0 && more <= most && text(row[:len(older)]) == text(older)
}

// stands: P17.7.
func (w *walk) stands(e api.Event, fell bool, now had) {
	w.t.Helper()
	if e.Kind == api.EventCrash || e.Kind == api.EventRestart {
		if text([]any{now.log, now.taken, now.pending}) != text([]any{w.had.log, w.had.taken, w.had.pending}) {
			w.t.Fatalf("%+v has changed what is kept", e)
		}
	}
	for n, life := range now.lives {
		started := now.up[n] && !w.had.up[n]
		if started && life <= w.had.lives[n] || !started && life != w.had.lives[n] {
			w.t.Fatalf("%+v: node %d in life %d, was %d", e, n, life, w.had.lives[n])
		}
	}
	if downs := len(w.had.up); fell {
		for n, up := range now.up {
			if up == w.had.up[n] {
				downs--
			}
		}
		if downs != 1 && e.Kind != api.EventRestart {
			w.t.Fatalf("%+v: %d nodes are another", e, downs)
		}
	}
}

// oneRow: P17.8, and what of W1 to W5 and W9 a world tells.
func (w *walk) oneRow() {
	w.t.Helper()
	log := w.Log()
	state := fold(w.c, log) // panics at an entry that is not as the rules have it
	if !book.Right(w.c, state) || text(w.State()) != text(state) {
		w.t.Fatalf("State: %+v\nwant %+v", w.State(), state)
	}
	acts := make([][]api.Act, w.c.Tills)
	for _, e := range log {
		if e.Act.Kind == api.ActNone {
			w.count["fence"]++
			continue
		}
		acts[e.Act.Till] = append(acts[e.Act.Till], e.Act)
		if w.sure[e.Act.Head] && (e.Outcome != api.Applied || text(e.Made) != text(e.Act.Lines)) {
			w.t.Fatalf("answered as sure: %+v", e)
		}
	}
	for n := range w.c.Tills {
		w.oneTill(n, log, acts[n])
	}
}

func (w *walk) oneTill(n int, log []api.Entry, acts []api.Act) {
	w.t.Helper()
	taken, pending := w.Taken(n), w.Pending(n)
	if len(taken) > len(log) || text(log[:len(taken)]) != text(taken) {
		w.t.Fatalf("till %d has taken %+v\nof %+v", n, taken, log)
	}
	for _, a := range pending {
		if a.Number > uint64(len(acts)) {
			acts = append(acts, a)
		}
		if at := slices.IndexFunc(acts, func(x api.Act) bool { return x.Number == a.Number }); at < 0 || text(acts[at]) != text(a) {
			w.t.Fatalf("till %d: pending %+v is another than %+v", n, a, acts)
		}
	}
	there := 0
	for i, a := range acts {
		if a.Number != uint64(i)+1 || a.Till != n {
			w.t.Fatalf("till %d: act %d is %+v", n, i+1, a)
		}
		if s := w.issued[a.Head]; s != "" {
			there++
			if s != text(a) {
				w.t.Fatalf("%+v was issued as %s", a, s)
			}
		}
	}
	for head := range w.issued {
		if head.Till == n {
			there--
		}
	}
	if there != 0 {
		w.t.Fatalf("till %d: %d acts that were answered are lost", n, -there)
	}
	if _, errno := draft.Load(w.c, n, taken, pending); errno != api.OK {
		w.t.Fatalf("till %d: %d: what is pending needs more than it holds", n, errno)
	}
}

// round is one of a calm: all that was on its way at its begin comes, in any order; then all tick, the tills once or more.
func (w *walk) round() {
	w.t.Helper()
	for n := w.Len(); n > 0; n-- {
		w.deliver(w.Intn(n))
	}
	w.tick(w.c.Tills)
	for n := range w.c.Tills {
		for range 1 + w.Intn(3)/2 {
			w.tick(n)
		}
	}
}

// calm is that of W8: behind B rounds, and from there on, all is one.
func (w *walk) calm() {
	w.t.Helper()
	for n := range w.c.Tills + 1 {
		if !w.Up(n) {
			w.restart(n)
		}
	}
	lost, tills, pending, lack := w.Lost(), w.c.Tills, 0, 0
	for n := range tills {
		pending += len(w.Pending(n))
		lack += len(w.Log()) - len(w.Taken(n))
	}
	k := 3 * (pending + tills)
	bound := 40 + (w.c.Cap+8)*(4*tills+2*(pending+tills)+lack+tills*k) + (tills+pending)*(w.c.Watch+8)
	for range bound {
		w.round()
	}
	if w.Lost() != lost {
		w.t.Fatalf("the net was full")
	}
	for range 40 {
		state := text(w.State())
		for n := range tills {
			if len(w.Pending(n)) > 0 || text(w.Base(n)) != state || text(w.View(n)) != state || text(w.Taken(n)) != text(w.Log()) {
				w.t.Fatalf("behind %d rounds: till %d has %d of %d entries, %d acts pending", bound, n, len(w.Taken(n)), len(w.Log()), len(w.Pending(n)))
			}
		}
		w.round()
	}
	w.oneRow()
	w.had = w.has()
}

func atLeast(t *testing.T, count, least map[string]int) {
	t.Helper()
	for what, n := range least {
		if count[what] < n {
			t.Errorf("%s: %d only", what, count[what])
		}
	}
}

func TestP17_8Drawn(t *testing.T) {
	count := map[string]int{}
	for seed := range int64(100) {
		draw := chance{rand.New(rand.NewSource(seed))}
		w := newWalk(t, draw, draw.config())
		w.count = count
		for i := range 400 {
			w.play(draw.event(w.rig))
			if i%20 > 0 {
				continue
			}
			w.oneRow()
			if g := w.all(); g != w.m.all() {
				t.Fatalf("seed %d, step %d:\n%s\nwant\n%s", seed, i, g, w.m.all())
			}
		}
		if w.Lost() > 0 {
			count["lost"]++
		}
		for _, sure := range w.sure {
			if sure {
				count["sure"]++
			}
		}
		if t.Failed() {
			t.Fatalf("seed %d", seed)
		}
	}
	atLeast(t, count, map[string]int{
		"deliver": 5000, "drop": 300, "double": 300, "tick": 5000, "crash": 150, "restart": 200, "do": 1000, "inject": 100,
		"off deliver": 20, "off tick": 3, "off restart": 20, "off do": 50, "wrong": 1000, "refused": 500, "lost": 20, "sure": 15, "fence": 50,
	})
}

func TestP17_8Calm(t *testing.T) {
	count := map[string]int{}
	for seed := range int64(24) {
		draw := chance{rand.New(rand.NewSource(seed))}
		c := draw.config()
		c.Flight = api.MaxFlight
		w := newWalk(t, draw, c)
		for range 2 {
			for range 500 {
				e := draw.event(w.rig)
				told, errno := w.Step(e)
				w.note(e, told, errno, false)
			}
			w.calm()
		}
		count["acts"] += len(w.issued)
		for _, sure := range w.sure {
			if sure {
				count["sure"]++
			}
		}
		if t.Failed() {
			t.Fatalf("seed %d", seed)
		}
	}
	atLeast(t, count, map[string]int{"acts": 500, "sure": 20})
}
