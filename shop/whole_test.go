package shop_test

import (
	"fmt"
	"math/rand"
	"slices"
	"strings"
	"testing"

	"till/api"
	"till/book"
	"till/text"
)

// The promises of the whole, by what a shop tells alone.

// step is one of a script: a line, or an event that no line can tell.
type step struct {
	line  string
	event api.Event
}

// walk is a shop under a drawn script, with all that was answered.
type walk struct {
	*rig
	chance
	script []step
	issued map[api.Head]api.Act // each as it was pending behind its answer
	last   api.Errno            // what the last step was answered
	look   func()               // what looks at each step
	count  map[string]int
}

func newWalk(t *testing.T, draw chance, c api.Config) *walk {
	t.Helper()
	return &walk{rig: newRig(t, c), chance: draw, issued: map[api.Head]api.Act{}, look: func() {}, count: map[string]int{}}
}

func (r *rig) take(x step) ([]string, api.Errno) {
	if x.line != "" {
		return r.Say(x.line)
	}
	return r.Step(x.event)
}

// kind is the event's that a step is, if it is one.
func (x step) kind() int {
	words, _ := text.Words(x.line)
	if len(words) == 0 {
		return x.event.Kind
	}
	return map[string]int{"deliver": api.EventDeliver, "tick": api.EventTick, "crash": api.EventCrash, "restart": api.EventRestart}[words[0]]
}

// place is that of a message that a step is about.
func (x step) place() int {
	words, _ := text.Words(x.line)
	if len(words) == 0 {
		return x.event.Index
	}
	return number(words[1])
}

func (w *walk) play(x step) {
	w.t.Helper()
	lines, errno := w.take(x)
	w.script, w.last = append(w.script, x), errno
	if len(lines) == 1 && strings.HasPrefix(lines[0], "act ") {
		w.note(x, lines[0])
	}
	w.look()
}

// note remembers an act that was answered.
func (w *walk) note(x step, line string) {
	w.t.Helper()
	var head api.Head
	if _, err := fmt.Sscanf(line, "act %d %d", &head.Till, &head.Number); err != nil {
		w.t.Fatal(err)
	}
	pending := w.Pending(head.Till)
	a := pending[len(pending)-1]
	sure := strings.HasSuffix(line, " sure")
	if a.Head != head || a.Sure != sure || w.issued[head].Kind != api.ActNone {
		w.t.Fatalf("%+v, answered %q: %+v", x, line, a)
	}
	w.issued[head] = a
	w.count["issued"]++
	if sure {
		w.count["sure"]++
	}
}

func (w *walk) say(words ...any) {
	w.t.Helper()
	w.play(step{line: strings.TrimSpace(fmt.Sprintln(words...))})
	if w.last != api.OK {
		w.t.Fatalf("%v: %d", words, w.last)
	}
}

// draw draws the next step.
func (w *walk) draw() step {
	if w.Intn(8) == 0 {
		e := w.event(w.c)
		if downs := w.downs(); len(downs) > 0 && w.Intn(2) == 0 {
			e.Kind, e.Node, e.Off = api.EventRestart, w.c.Tills, w.Intn(4)
			if downs[0] != "server" {
				e.Node = number(downs[0])
			}
		}
		return step{event: e}
	}
	line := ""
	for strings.TrimSpace(line) == "" {
		line = w.line(w.words(w.c))
	}
	return step{line: line}
}

// round is one of a calm: all that was on its way at its begin comes, in any order; then all tick, the tills once or more.
func (w *walk) round() {
	w.t.Helper()
	for n := w.onWay(); n > 0; n-- {
		w.say("deliver", w.Intn(n))
	}
	w.say("tick server")
	for till := range w.c.Tills {
		for range 1 + w.Intn(3)/2 {
			w.say("tick", till)
		}
	}
}

// downs are the nodes that are down.
func (r *rig) downs() (out []string) {
	r.t.Helper()
	for _, line := range r.tells("nodes") {
		if words := strings.Fields(line); words[1] == "down" {
			out = append(out, words[0])
		}
	}
	return out
}

func (w *walk) allUp() {
	w.t.Helper()
	for _, node := range w.downs() {
		w.say("restart", node)
	}
}

func (r *rig) restartAll() {
	r.t.Helper()
	for _, node := range r.downs() {
		r.says("restart " + node)
	}
}

// trade says a line of each till and some of an item.
func (w *walk) trade(what, how string) {
	w.t.Helper()
	for till := range w.c.Tills {
		name := w.c.Counters[w.Intn(len(w.c.Counters))].Name
		w.play(step{line: fmt.Sprintf("%s %d %s %d %s", what, till, name, 1+w.Intn(3), how)})
	}
}

// each plays drawn scripts, with calms in them; what begins with a script looks at each of its steps.
func each(t *testing.T, seeds, steps int, begin func(w *walk) (look func())) map[string]int {
	t.Helper()
	t.Parallel()
	count := map[string]int{}
	for seed := range int64(seeds) {
		draw := chance{rand.New(rand.NewSource(seed))}
		w := newWalk(t, draw, draw.config())
		w.count = count
		w.look = begin(w)
		for range steps {
			if w.Intn(60) == 0 {
				w.allUp()
				w.trade("want", "down")
				for range 5 {
					w.round()
				}
				w.trade("sale", "best")
			}
			w.play(w.draw())
		}
		for _, e := range w.Log() {
			if e.Act.Kind == api.ActNone {
				count["fences"]++
			}
			count["entries"]++
		}
	}
	return count
}

func atLeast(t *testing.T, count, least map[string]int) {
	t.Helper()
	for what, n := range least {
		if count[what] < n {
			t.Errorf("%s: %d only", what, count[what])
		}
	}
}

// states are the server's, and each till's base and view.
func (r *rig) states() []api.State {
	out := []api.State{r.State()}
	for till := range r.c.Tills {
		out = append(out, r.Base(till), r.View(till))
	}
	return out
}

func fold(t *testing.T, c api.Config, entries []api.Entry) api.State {
	t.Helper()
	s := book.First(c)
	for _, e := range entries {
		next, errno := book.Fold(c, s, e)
		if errno != api.OK {
			t.Fatalf("%+v behind %+v: %d", e, s, errno)
		}
		s = next
	}
	return s
}

func (w *walk) bounds() {
	w.t.Helper()
	for _, s := range w.states() {
		for i, c := range w.c.Counters {
			v := s.Pools[i].Value
			if v < c.Lo || v > c.Hi {
				w.t.Fatalf("%+v: %d", c, v)
			}
			if v == c.Lo || v == c.Hi {
				w.count["edges"]++
			}
		}
	}
}

func TestW1Bounds(t *testing.T) {
	count := each(t, 40, 300, func(w *walk) func() { return w.bounds })
	atLeast(t, count, map[string]int{"edges": 5000, "entries": 800})
}

func (w *walk) folds() {
	w.t.Helper()
	log := w.Log()
	if g := w.State(); show(g) != show(fold(w.t, w.c, log)) {
		w.t.Fatalf("State: %+v\nof %+v", g, log)
	}
	for till := range w.c.Tills {
		base := w.Base(till)
		if base.Position > uint64(len(log)) || show(base) != show(fold(w.t, w.c, log[:base.Position])) {
			w.t.Fatalf("Base(%d): %+v\nof %+v", till, base, log)
		}
		if base.Position < uint64(len(log)) {
			w.count["behind"]++
		}
	}
}

func TestW2Fold(t *testing.T) {
	count := each(t, 40, 300, func(w *walk) func() { return w.folds })
	atLeast(t, count, map[string]int{"behind": 5000, "entries": 800})
}

// acts are those of a till: of the log, and behind them of what is pending.
func (w *walk) acts(till int) (row []api.Act) {
	w.t.Helper()
	for _, e := range w.Log() {
		if e.Act.Kind != api.ActNone && e.Act.Till == till {
			row = append(row, e.Act)
		}
	}
	for _, a := range w.Pending(till) {
		if a.Number > uint64(len(row)) {
			row = append(row, a)
		} else if show(row[a.Number-1]) != show(a) {
			w.t.Fatalf("pending %+v is another than %+v", a, row[a.Number-1])
		}
	}
	return row
}

func (w *walk) onceInOrder() {
	w.t.Helper()
	for till := range w.c.Tills {
		row := w.acts(till)
		for i, a := range row {
			if a.Till != till || a.Number != uint64(i)+1 {
				w.t.Fatalf("till %d: act %d is %+v", till, i+1, a)
			}
		}
		for head, a := range w.issued {
			if head.Till == till && (head.Number > uint64(len(row)) || show(row[head.Number-1]) != show(a)) {
				w.t.Fatalf("%+v is gone", a)
			}
		}
	}
}

func TestW3OnceInOrder(t *testing.T) {
	count := each(t, 40, 300, func(w *walk) func() { return w.onceInOrder })
	atLeast(t, count, map[string]int{"issued": 1500, "entries": 800})
}

// forSure: what was answered as sure is in the log as Applied, or is pending; and what a till keeps as sure it has answered so, or had no power to answer.
func (w *walk) forSure() {
	w.t.Helper()
	for _, e := range w.Log() {
		a, answered := w.issued[e.Act.Head]
		if answered && e.Act.Sure != a.Sure {
			w.t.Fatalf("%+v was answered as %+v", e, a)
		}
		if e.Act.Sure && (e.Outcome != api.Applied || show(e.Made) != show(e.Act.Lines) || len(e.Sets) > 0) {
			w.t.Fatalf("answered as sure: %+v", e)
		}
	}
}

func TestW4ForSure(t *testing.T) {
	count := each(t, 60, 300, func(w *walk) func() { return w.forSure })
	atLeast(t, count, map[string]int{"sure": 40, "fences": 40, "entries": 1000})
}

// A fence takes back what is available then, by the till's own yield; what was sold for sure stays so.
func TestW4Fenced(t *testing.T) {
	for sold := range int64(4) {
		r := newRig(t, conf())
		r.rounds(5)
		r.says("want 0 tea 3 down", "act 0 1")
		r.rounds(5)
		want := []string{}
		for i := range sold {
			r.says("sale 0 tea 1 sure", fmt.Sprintf("act 0 %d sure", i+2))
			want = append(want, fmt.Sprintf("%d applied tea -1", i+2))
		}
		r.without(0, r.c.Watch+3) // not a word of it
		r.says("log", "1 0 1 ask granted", "2 fence 0 1")
		r.says("sale 1 tea 3", "act 1 1 tentative")
		r.says("sale 1 tea 1", "act 1 2 tentative") // the till's rights are its own yet
		r.without(0, 5)
		r.says("report 1", "1 applied tea -3", "2 rejected")
		for len(r.Pending(0)) <= int(sold) { // till it hears of the fence
			r.rounds(1)
		}
		r.refuses("sale 0 tea 1 sure", api.ErrDraftRights)
		r.says("sale 0 tea 9", fmt.Sprintf("act 0 %d tentative", sold+3))
		r.rounds(12)
		r.says("report 0", append(want, fmt.Sprintf("%d rejected", sold+3))...)
		yield := r.Log()[4+sold]
		rights := []api.Right{right(api.Down, 3-sold)}[:min(3-sold, 1)]
		if yield.Act.Kind != api.ActYield || yield.Outcome != api.Done || show(yield.Act.Rights) != show(rights) {
			t.Errorf("%d sold: %+v", sold, yield)
		}
		r.says("state", fmt.Sprintf("tea %d down %d 0 up %d 0", 3-sold, 3-sold, 7+sold), "tea 3.50 0")
	}
}

// Nothing is sure but while the lease runs: for Lease of the till's own ticks behind the server's last word, and not behind a start.
func TestW4Lease(t *testing.T) {
	r := newRig(t, conf())
	r.says("tick server")
	r.says("deliver 0")
	r.says("want 0 tea 3 down", "act 0 1")
	r.rounds(5)
	r.flush()
	for range r.c.Lease - 1 {
		r.says("tick 0")
	}
	r.says("sale 0 tea 1 sure", "act 0 2 sure")
	r.says("tick 0")
	r.refuses("sale 0 tea 1 sure", api.ErrDraftRights)
	r.says("sale 0 tea 1", "act 0 3 tentative")
	r.rounds(3)
	r.says("sale 0 tea 1 sure", "act 0 4 sure")
	r.says("crash 0")
	r.says("restart 0")
	r.refuses("sale 0 tea 1 sure", api.ErrDraftRights)
	r.rounds(3)
	r.says("sale 0 tea 1 sure", "act 0 5 sure")
	r.refuses("sale 0 tea 1 sure", api.ErrDraftRights)
	r.rounds(9)
	r.says("report 0", "2 applied tea -1", "3 applied tea -1", "4 applied tea -1", "5 applied tea -1")
}

// need is what an act of a till needs of a counter and a way.
func need(a api.Act, counter, way int) (n int64) {
	rights := append([]api.Right(nil), a.Rights...)
	if a.Kind == api.ActGive || a.Kind == api.ActPass {
		rights = append(rights, a.Right)
	}
	for _, x := range a.Lines {
		if a.Sure && x.Change < 0 {
			rights = append(rights, api.Right{Counter: x.Counter, Way: api.Down, N: -x.Change})
		} else if a.Sure {
			rights = append(rights, api.Right{Counter: x.Counter, Way: api.Up, N: x.Change})
		}
	}
	for _, x := range rights {
		if x.Counter == counter && x.Way == way {
			n += x.N
		}
	}
	return n
}

func (w *walk) rights() {
	w.t.Helper()
	for _, s := range w.states() {
		for i, c := range w.c.Counters {
			p := s.Pools[i]
			for way, slack := range []int64{p.Value - c.Lo, c.Hi - p.Value} {
				all := p.Free[way]
				for _, h := range p.Held {
					all += h[way]
					if h[way] < 0 {
						w.t.Fatalf("%+v: %+v", c, p)
					}
					w.count["held"] += int(min(h[way], 1))
				}
				if p.Free[way] < 0 || all != slack {
					w.t.Fatalf("%+v: %+v", c, p)
				}
			}
		}
	}
	w.says("check", "fine")
}

func (w *walk) available() {
	w.t.Helper()
	for till := range w.c.Tills {
		base, pending := w.Base(till), w.Pending(till)
		for i, p := range base.Pools {
			for way, have := range p.Held[till] {
				for _, a := range pending {
					have -= need(a, i, way)
				}
				if have < 0 {
					w.t.Fatalf("till %d, counter %d, way %d: %d", till, i, way, have)
				}
			}
		}
	}
}

func TestW5Rights(t *testing.T) {
	count := each(t, 45, 300, func(w *walk) func() {
		return func() {
			w.rights()
			w.available()
		}
	})
	atLeast(t, count, map[string]int{"held": 5000, "fences": 20, "sure": 40})
}

// What a pending act needs is available no more: of a sure sale, a give and a pass; of others nothing is needed.
func TestW5Needs(t *testing.T) {
	for _, x := range []struct {
		line string
		told string
		left int
	}{
		{"sale 0 tea 2 sure", "act 0 2 sure", 3},
		{"give 0 tea 2 down", "act 0 2", 3},
		{"pass 0 tea 2 down to 1", "act 0 2", 3},
		{"sale 0 tea 2 loose", "act 0 2 tentative", 5},
		{"want 0 tea 2 down", "act 0 2", 5},
		{"want 0 tea 2 up", "act 0 2", 5},
		{"refund 0 tea 2", "act 0 2 tentative", 5},
		{"count 0 tea 2", "act 0 2 tentative", 5},
	} {
		for _, line := range []string{"sale 0 tea %d sure", "give 0 tea %d down", "pass 0 tea %d down to 1"} {
			r := newRig(t, conf())
			r.rounds(5)
			r.says("want 0 tea 5 down", "act 0 1")
			r.rounds(5)
			r.says(x.line, x.told)
			r.refuses(fmt.Sprintf(line, x.left+1), api.ErrDraftRights)
			r.tells(fmt.Sprintf(line, x.left))
			r.refuses(fmt.Sprintf(line, 1), api.ErrDraftRights)
			r.says("sale 0 tea 1", "act 0 4 tentative")
			r.rounds(9)
			for _, e := range r.Log() {
				if e.Outcome == api.Rejected && e.Act.Number == 3 {
					t.Errorf("%q behind %q: %+v", line, x.line, e)
				}
			}
		}
	}
}

// kept is what lasts: the log, and each till's base and pending acts.
func (r *rig) kept() string { return show(r.Log()) + r.keptByTills() }

func (r *rig) keptByTills() (s string) {
	for till := range r.c.Tills {
		s += "\n" + show([]any{r.Base(till), r.Pending(till)})
	}
	return s
}

// up is how many nodes are up.
func (r *rig) up() int {
	r.t.Helper()
	return r.c.Tills + 1 - len(r.downs())
}

// mayBeKept are all that may be kept behind the last step: what was ahead of it, what it would have made with the power on, and, of several fences, which are kept one by one, the first ones.
func (w *walk) mayBeKept() []string {
	w.t.Helper()
	last := len(w.script) - 1
	r := newRig(w.t, w.c)
	for _, x := range w.script[:last] {
		r.take(x)
	}
	out, log := []string{r.kept()}, len(r.Log())
	x := w.script[last]
	x.event.Off = 0
	r.take(x)
	more := r.Log()
	for i := log + 1; i < len(more) && x.event.Kind == api.EventTick; i++ {
		out = append(out, show(more[:i])+r.keptByTills())
	}
	return append(out, r.kept())
}

// crashes holds what is kept behind each step against what was ahead of it.
func (w *walk) crashes() func() {
	before, up := w.kept(), w.up()
	return func() {
		w.t.Helper()
		x := w.script[len(w.script)-1]
		now, nowUp := w.kept(), w.up()
		kind := x.kind()
		if (kind == api.EventCrash || kind == api.EventRestart) && w.last == api.OK {
			w.count["crashes and starts"]++
			if now != before {
				w.t.Fatalf("%+v has changed what is kept from %s\nto %s", x, before, now)
			}
		}
		wentOff := nowUp < up || kind == api.EventRestart && nowUp == up
		if x.event.Off > 0 && w.last == api.OK && wentOff {
			if may := w.mayBeKept(); !slices.Contains(may, now) {
				w.t.Fatalf("%+v has left %s\nnone of %q", x, now, may)
			}
			w.count[fmt.Sprint("off at ", kind)]++
			if now != before {
				w.count["kept all the same"]++
			}
		}
		before, up = now, nowUp
	}
}

func TestW6Crashes(t *testing.T) {
	count := each(t, 50, 250, (*walk).crashes)
	atLeast(t, count, map[string]int{
		"crashes and starts": 300, "kept all the same": 15,
		fmt.Sprint("off at ", api.EventDo): 25, fmt.Sprint("off at ", api.EventDeliver): 10, fmt.Sprint("off at ", api.EventRestart): 20,
	})
}

// The power goes off at each stroke of what comes, and leaves nothing, something or all of what was not safe: what was answered is there, once.
func TestW6EachStroke(t *testing.T) {
	met := map[bool]int{}
	for off := 1; off <= 4; off++ {
		for _, picks := range [][]int{nil, {0, 5}, {0, -1}, {-1, -1, -1}, {1, 30}} {
			r := newRig(t, conf())
			r.rounds(5)
			r.says("want 0 tea 4 down", "act 0 1")
			r.rounds(6)
			r.says("sale 0 tea 1 sure", "act 0 2 sure")
			e := do(0, write(-2), api.Sure)
			e.Off, e.Picks = off, picks
			lines, _ := r.Step(e)
			kept := len(r.Pending(0)) == 2
			if len(lines) > 0 && !kept {
				t.Fatalf("off %d: answered %q, and not kept", off, lines)
			}
			met[kept]++
			for range 8 { // whoever hears something loses its power at it
				r.restartAll()
				for range r.onWay() {
					r.plays(api.Event{Kind: api.EventDeliver, Off: off, Picks: picks})
				}
				r.restartAll()
				r.rounds(1)
			}
			r.rounds(14)
			want := []string{"2 applied tea -1", "3 applied tea -2"}
			if !kept {
				want = want[:1]
			}
			r.says("report 0", want...)
			r.says("check", "fine")
		}
	}
	if met[true] < 3 || met[false] < 3 {
		t.Errorf("kept and not: %v", met)
	}
}

// silentTills has three tills that hold rights, and of whom the server has heard nothing for so many ticks.
func silentTills(t *testing.T, ticks int) *rig {
	t.Helper()
	c := store()
	c.Watch = 10
	r := newRig(t, c)
	r.rounds(5)
	for till := range 3 {
		r.says(fmt.Sprintf("want %d tea 2 down", till), fmt.Sprintf("act %d 1", till))
	}
	r.rounds(6)
	r.flush()
	for range ticks {
		r.says("tick server")
	}
	return r
}

// Fences are kept one by one: of those of a tick in which the power goes off the first ones are there, and the others come with a later one.
func TestW6Fences(t *testing.T) {
	whole := silentTills(t, 10).tells("log")
	if len(whole) != 6 || whole[3] != "4 fence 0 1" || whole[5] != "6 fence 2 1" {
		t.Fatalf("%q", whole)
	}
	met := map[int]int{}
	for off := 1; off <= 7; off++ {
		for _, picks := range [][]int{nil, {0, 7}, {-1, -1, -1}} {
			r := silentTills(t, 9)
			r.plays(api.Event{Kind: api.EventTick, Node: 3, Off: off, Picks: picks})
			log := r.tells("log")
			if len(log) < 3 || len(log) > 6 || !slices.Equal(log, whole[:len(log)]) {
				t.Fatalf("off %d, %v: %q", off, picks, log)
			}
			met[len(log)]++
			r.restartAll()
			if now := r.tells("log"); !slices.Equal(now, log) {
				t.Fatalf("off %d, %v: %q, was %q", off, picks, now, log)
			}
			for range 10 {
				r.says("tick server")
			}
			r.says("log", whole...)
			r.rounds(20)
			r.says("state", "Tea 40 down 40 0 up 50 0", "CAFÉ -3 down 17 0 up 23 0", "x.y_z-1 5 down 0 0 up 0 0", "Tea 1'234.56 0", "Ω 0.00 0")
		}
	}
	if len(met) != 4 {
		t.Errorf("%v", met)
	}
}

// refused looks whether what was refused has changed anything.
func (w *walk) refused() func() {
	before := w.all()
	return func() {
		w.t.Helper()
		now := w.all()
		if w.last != api.OK {
			w.count[fmt.Sprint(w.last)]++
			if now != before {
				w.t.Fatalf("refused by %d, and from\n%s\nto\n%s", w.last, before, now)
			}
		}
		before = now
	}
}

func TestW7Refused(t *testing.T) {
	count := each(t, 25, 200, (*walk).refused)
	atLeast(t, count, map[string]int{
		fmt.Sprint(api.ErrShopLine): 30, fmt.Sprint(api.ErrShopName): 30, fmt.Sprint(api.ErrWorldEvent): 100, fmt.Sprint(api.ErrDraftRights): 30, fmt.Sprint(api.ErrActLine): 5,
	})
}

// Where several errors apply, the first of the lists: the words', the form's, the name's, the world's, the act's, the draft's.
func TestW7First(t *testing.T) {
	r := newRig(t, conf())
	for range api.MaxPending {
		r.tells("sale 0 tea 1 loose")
	}
	r.refuses(`sale 9 milk 0 sure "`, api.ErrTextLine)
	r.refuses("sale 9 milk 0 sure", api.ErrShopLine)
	r.refuses("sale 9 milk 1 sure", api.ErrShopName)
	r.refuses("sale 0"+strings.Repeat(" tea 1", 9)+" sure", api.ErrActLine)
	r.refuses("pass 0 tea 9 down to 0", api.ErrActRight)
	r.refuses("sale 0 tea 1 sure", api.ErrDraftFull)
	r.refuses("give 0 tea 1 down", api.ErrDraftFull)
	r.refuses("give 1 tea 1 down", api.ErrDraftRights)
	r.says("crash 0")
	r.refuses("sale 0"+strings.Repeat(" tea 1", 9)+" sure", api.ErrWorldEvent)
	r.refuses("pass 0 tea 9 down to 0", api.ErrWorldEvent)
}

// calmRounds is B, behind which all must be one.
func (w *walk) calmRounds() int {
	tills, pending, lack := w.c.Tills, 0, 0
	for till := range tills {
		pending += len(w.Pending(till))
		lack += len(w.Log()) - int(w.Base(till).Position)
	}
	k := 3 * (pending + tills)
	return 40 + (w.c.Cap+8)*(4*tills+2*(pending+tills)+lack+tills*k) + (tills+pending)*(w.c.Watch+8)
}

func (w *walk) allOne() {
	w.t.Helper()
	state := show(w.State())
	for till := range w.c.Tills {
		if len(w.Pending(till)) > 0 || show(w.Base(till)) != state || show(w.View(till)) != state {
			w.t.Fatalf("till %d has %d of %d entries, %d acts pending", till, w.Base(till).Position, len(w.Log()), len(w.Pending(till)))
		}
	}
}

func TestW8InTheEnd(t *testing.T) {
	t.Parallel()
	issued := 0
	for seed := range int64(10) {
		draw := chance{rand.New(rand.NewSource(seed))}
		c := draw.config()
		c.Flight = api.MaxFlight
		w := newWalk(t, draw, c)
		for range 400 {
			w.play(w.draw())
		}
		w.allUp()
		for range w.calmRounds() {
			w.round()
		}
		for range 20 {
			w.allOne()
			w.round()
		}
		w.onceInOrder() // nothing is pending: each has its entry
		issued += len(w.issued)
	}
	if issued < 200 {
		t.Errorf("%d acts only", issued)
	}
}
