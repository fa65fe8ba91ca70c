package shop_test

import (
	"fmt"
	"math/rand"
	"strings"
	"testing"

	"till/api"
	"till/book"
	"till/text"
)

// table is DOC.md's table 'What acts do' for a write that isn't sure, in a state.
type table struct{ s api.State }

func way(change int64) int {
	if change < 0 {
		return api.Down
	}
	return api.Up
}

func size(change int64) int64 { return max(change, -change) }

// affordable: of each counter and way there are as many free rights as the lines' amounts together.
func (t table) affordable(lines []api.Line) bool {
	for _, x := range lines {
		need := int64(0)
		for _, y := range lines {
			if y.Counter == x.Counter && way(y.Change) == way(x.Change) {
				need += size(y.Change)
			}
		}
		if need > t.s.Pools[x.Counter].Free[way(x.Change)] {
			return false
		}
	}
	return true
}

func (t table) guarded(guards []api.Guard) bool {
	for _, g := range guards {
		switch {
		case g.Kind == api.GuardLeast && t.s.Pools[g.What].Value < g.N,
			g.Kind == api.GuardMost && t.s.Pools[g.What].Value > g.N,
			g.Kind == api.GuardIs && t.s.Pools[g.What].Value != g.N,
			g.Kind == api.GuardVersion && t.s.Prices[g.What].Version != g.N:
			return false
		}
	}
	return true
}

// set are settings as they are made.
func (t table) set(sets []api.Set) (out []api.Set) {
	for _, x := range sets {
		out = append(out, api.Set{Price: x.Price, N: x.N, Version: int(t.s.Prices[x.Price].Version) + 1})
	}
	return out
}

// clamped are lines one behind the other, each cut to what is free then.
func (t table) clamped(lines []api.Line) (out []api.Line) {
	free := map[int][2]int64{}
	for i, p := range t.s.Pools {
		free[i] = p.Free
	}
	for _, x := range lines {
		f, w := free[x.Counter], way(x.Change)
		n := min(size(x.Change), f[w])
		f[w] -= n
		f[1-w] += n
		free[x.Counter] = f
		if n > 0 {
			out = append(out, api.Line{Counter: x.Counter, Change: n * (2*int64(w) - 1)})
		}
	}
	return out
}

func (t table) judge(a api.Act) (outcome int, made []api.Line, sets []api.Set) {
	can := t.affordable(a.Lines)
	if can && t.guarded(a.Guards) {
		return api.Applied, a.Lines, t.set(a.Sets)
	}
	switch a.Merge.Kind {
	case api.MergeClamp:
		var open []api.Set
		for _, x := range a.Sets {
			if x.Version == -1 || int64(x.Version) == t.s.Prices[x.Price].Version {
				open = append(open, x)
			}
		}
		if made, sets = t.clamped(a.Lines), t.set(open); len(made)+len(sets) > 0 {
			return api.Merged, made, sets
		}
	case api.MergeOther:
		if t.affordable(a.Merge.Other) {
			return api.Merged, a.Merge.Other, nil
		}
	case api.MergeForce:
		if can {
			return api.Merged, a.Lines, t.set(a.Sets)
		}
	}
	return api.Rejected, nil, nil
}

// What a write that isn't sure declares is held against the state ahead of it.
func TestW9AsDeclared(t *testing.T) {
	t.Parallel()
	met := map[[2]int]int{}
	for seed := range int64(100) {
		draw := chance{rand.New(rand.NewSource(seed))}
		w := newWalk(t, draw, draw.config())
		for i := range 350 {
			if i%50 == 49 {
				w.allUp()
				for range 8 {
					w.round()
				}
			}
			w.play(w.draw())
		}
		s := book.First(w.c)
		for _, e := range w.Log() {
			if a := e.Act; a.Kind == api.ActWrite && !a.Sure {
				outcome, made, sets := table{s}.judge(a)
				if e.Outcome != outcome || show(e.Made) != show(made) || show(e.Sets) != show(sets) {
					t.Fatalf("seed %d: %+v in %+v: want %d, %+v, %+v", seed, e, s, outcome, made, sets)
				}
				met[[2]int{a.Merge.Kind, outcome}]++
			}
			s, _ = book.Fold(w.c, s, e)
		}
	}
	for _, x := range [][2]int{
		{api.MergeNone, api.Applied}, {api.MergeNone, api.Rejected},
		{api.MergeClamp, api.Applied}, {api.MergeClamp, api.Merged}, {api.MergeClamp, api.Rejected},
		{api.MergeOther, api.Applied}, {api.MergeOther, api.Merged}, {api.MergeOther, api.Rejected},
		{api.MergeForce, api.Applied}, {api.MergeForce, api.Merged}, {api.MergeForce, api.Rejected},
	} {
		if met[x] < 5 {
			t.Errorf("merge %d, outcome %d: %d only", x[0], x[1], met[x])
		}
	}
}

// What tills have written without hearing of one another, as they declared it.
func TestW9Lines(t *testing.T) {
	r := newRig(t, conf())
	r.rounds(5)
	r.says("sale 0 tea 5", "act 0 1 tentative")
	r.says("price 0 tea 4", "act 0 2 tentative")
	r.says("sale 1 tea 3", "act 1 1 tentative")
	r.says("count 1 tea 1", "act 1 2 tentative") // by its view 2 are to go: one is left
	r.says("price 1 tea 5 anyhow", "act 1 3 tentative")
	r.says("price 1 tea 6", "act 1 4 tentative") // by its view that is the second
	r.without(1, 6)
	r.rounds(12)
	r.says("report 0", "1 applied tea -5", "2 applied")
	r.says("report 1", "1 rejected", "2 merged tea -1", "3 merged", "4 rejected")
	r.says("state", "tea 0 down 0 0 up 10 0", "tea 5.00 2")
}

// reported is a till's report by the acts that it has issued, and the entries that it has taken.
func (w *walk) reported(till int) (out []string) {
	w.t.Helper()
	taken := w.Log()[:w.Base(till).Position]
	for _, a := range w.acts(till) {
		if a.Kind != api.ActWrite {
			continue
		}
		line := fmt.Sprint(a.Number, " pending")
		for _, e := range taken {
			if e.Act.Head == a.Head && e.Act.Kind != api.ActNone {
				line = fmt.Sprint(a.Number, " ", outcomeNames[e.Outcome])
				for _, x := range e.Made {
					line += fmt.Sprint(" ", w.c.Counters[x.Counter].Name, " ", x.Change)
				}
			}
		}
		out = append(out, line)
	}
	return out
}

func (w *walk) reports() {
	w.t.Helper()
	w.onceInOrder()
	for till := range w.c.Tills {
		want := w.reported(till)
		w.says(fmt.Sprint("report ", till), want...)
		w.count["items"] += len(want)
	}
	var sums []string
	for i, c := range w.c.Counters {
		sums = append(sums, fmt.Sprint(c.Name, " ", w.State().Pools[i].Value-c.Start))
	}
	w.says("sum", sums...)
}

func TestW10Reports(t *testing.T) {
	count := each(t, 30, 200, func(w *walk) func() { return w.reports })
	atLeast(t, count, map[string]int{"items": 10000, "entries": 300})
}

// Of every counter and way q rights can be sold one by one, for sure, without a word from anybody.
func TestW11ItCanBeDone(t *testing.T) {
	t.Parallel()
	c := store()
	c.Tills = 2
	c.Counters = []api.Counter{{Name: "tea", Hi: 126, Start: 63}, {Name: "debt", Lo: -70, Hi: 70, Start: 0}}
	for q := 1; q < api.MaxPending; q++ {
		for i, name := range []string{"tea", "debt"} {
			for _, x := range []struct{ way, line string }{{"down", "sale"}, {"up", "refund"}} {
				r := newRig(t, c)
				till := q % 2
				r.rounds(4)
				r.says(fmt.Sprintf("want %d %s %d %s", till, name, q, x.way), fmt.Sprintf("act %d 1", till))
				r.rounds(4)
				if len(r.Pending(till)) > 0 {
					t.Fatalf("%d: the entry has not come", q)
				}
				r.says("crash server")
				line := fmt.Sprintf("%s %d %s 1 sure", x.line, till, name)
				for k := range q {
					r.says(line, fmt.Sprintf("act %d %d sure", till, k+2))
				}
				if got, errno := r.Say(line); errno != api.ErrDraftRights || got != nil {
					t.Fatalf("%d %s %s: %q, %d", q, name, x.way, got, errno)
				}
				if q%9 == 0 {
					r.says("restart server")
					for len(r.Pending(till)) > 0 {
						r.rounds(1)
					}
					sign := map[string]int{"sale": -1, "refund": 1}[x.line]
					if got := r.tells("sum")[i]; got != fmt.Sprint(name, " ", sign*q) {
						t.Errorf("%d %s: %q", q, x.line, got)
					}
				}
			}
		}
	}
}

// handed looks at what is handed up. Frames are lost, doubled, late, and of former lives; yet an act comes into the log only when one is delivered to the server, just the next one of its till; and an entry is taken only when one is delivered to its till, just the next one.
func (w *walk) handed() func() {
	log, flights, positions := w.Log(), w.tells("flights"), w.positions()
	return func() {
		w.t.Helper()
		x, heard := w.script[len(w.script)-1], ""
		if x.kind() == api.EventDeliver && w.last == api.OK {
			heard = flights[x.place()]
		}
		now, reached := w.Log(), w.positions()
		for _, e := range now[len(log):] {
			if e.Act.Kind == api.ActNone {
				continue
			}
			if heard != "server act" || e.Act.Number != last(log, e.Act.Till)+1 {
				w.t.Fatalf("%+v: %q has made %+v", x, heard, e)
			}
			w.count["acts"]++
		}
		for till, p := range reached {
			if p == positions[till] {
				continue
			}
			if p != positions[till]+1 || heard != fmt.Sprint(till, " entry") {
				w.t.Fatalf("%+v: %q has brought till %d from %d to %d", x, heard, till, positions[till], p)
			}
			w.count["taken"]++
		}
		if heard != "" && show(now) == show(log) && show(reached) == show(positions) {
			w.count["nothing of "+heard[strings.Index(heard, " ")+1:]]++
		}
		log, flights, positions = now, w.tells("flights"), reached
	}
}

func (w *walk) positions() (out []uint64) {
	for till := range w.c.Tills {
		out = append(out, w.Base(till).Position)
	}
	return out
}

// last is the number of a till's last act in a log.
func last(log []api.Entry, till int) (n uint64) {
	for _, e := range log {
		if e.Act.Kind != api.ActNone && e.Act.Till == till {
			n = e.Act.Number
		}
	}
	return n
}

func TestW12Sessions(t *testing.T) {
	count := each(t, 40, 300, (*walk).handed)
	atLeast(t, count, map[string]int{"acts": 600, "taken": 600, "nothing of act": 100, "nothing of entry": 100, "nothing of hello": 100})
}

// What was said in a former life is not heard any more; what had not come is said again.
func TestW12FormerLives(t *testing.T) {
	r := newRig(t, conf())
	r.rounds(4)
	r.flush()
	r.says("sale 0 tea 1", "act 0 1 tentative")
	r.says("tick 0")
	r.says("flights", "server act")
	r.says("double 0")
	r.says("crash 0")
	r.says("restart 0")
	r.says("tick 0")
	r.says("flights", "server act", "server act", "server word")
	r.says("deliver 2")
	r.says("deliver 0")
	r.says("log")
	r.says("deliver 0")
	r.says("log")
	r.rounds(6)
	r.says("log", "1 0 1 write applied")
	r.says("report 0", "1 applied tea -1")
}

// What was acked in a former life is not taken as an ack of this one: what is lost now is said again.
func TestW12FormerAcks(t *testing.T) {
	r := newRig(t, conf())
	r.rounds(5)
	r.says("sale 1 tea 1", "act 1 1 tentative")
	r.says("sale 1 tea 1", "act 1 2 tentative")
	for r.Base(0).Position < 2 {
		r.rounds(1)
	}
	for r.tells("flights")[0] != "server word" {
		r.says("deliver 0")
	}
	r.says("crash 0")
	r.says("restart 0")
	for range 4 { // the word of the former life is late
		for range r.onWay() - 1 {
			r.says("deliver 1")
		}
		r.says("tick server")
		r.says("tick 0")
		r.says("tick 1")
	}
	r.says("sale 1 tea 1", "act 1 3 tentative")
	r.says("sale 1 tea 1", "act 1 4 tentative")
	for len(r.Log()) < 4 {
		r.says("tick 1")
		for _, line := range r.tells("flights")[1:] {
			if line[0] == '0' {
				r.says("drop 1")
			} else {
				r.says("deliver 1")
			}
		}
	}
	r.says("tick server")
	entries := 0
	for i := r.onWay() - 1; i > 0; i-- {
		if r.tells("flights")[i] == "0 entry" {
			entries++
			r.says(fmt.Sprint("drop ", i))
		}
	}
	if r.says("deliver 0"); entries != 2 || r.Base(0).Position != 2 {
		t.Fatalf("%d entries were on their way", entries)
	}
	r.rounds(12)
	r.says("nodes", "0 up 2 4 0", "1 up 1 4 0", "server up 1")
}

// Lines and their events, drawn, at two shops that begin alike.
func TestW13Lines(t *testing.T) {
	t.Parallel()
	for seed := range int64(5) {
		draw := chance{rand.New(rand.NewSource(seed))}
		c := draw.config()
		c.Flight = 64
		p := newPair(t, c)
		for range 150 {
			till := draw.Intn(c.Tills)
			item, n, way := draw.Intn(len(c.Counters)), 1+draw.Int63n(3), draw.Intn(2)
			name, ways := c.Counters[item].Name, []string{"down", "up"}
			switch draw.Intn(9) {
			case 0:
				takes := draw.Intn(3)
				a := api.Act{Kind: api.ActWrite, Lines: []api.Line{{Counter: item, Change: -n}, {Counter: item, Change: -1}}}
				p.same(fmt.Sprintf("sale %d %s %d %s 1 %s", till, name, n, name, []string{"loose", "best", "sure"}[takes]), do(till, a, takes))
			case 1:
				a := api.Act{Kind: api.ActWrite, Lines: []api.Line{{Counter: item, Change: n}}}
				p.same(fmt.Sprintf("refund %d %s %d", till, name, n), do(till, a, api.Best))
			case 2:
				a := api.Act{Kind: api.ActAsk, Right: api.Right{Counter: item, Way: way, N: n}}
				p.same(fmt.Sprintf("want %d %s %d %s", till, name, n, ways[way]), do(till, a, api.Loose))
			case 3:
				a := api.Act{Kind: api.ActGive, Right: api.Right{Counter: item, Way: way, N: n}}
				p.same(fmt.Sprintf("give %d %s %d %s", till, name, n, ways[way]), do(till, a, api.Loose))
			case 4:
				to := draw.Intn(c.Tills)
				a := api.Act{Kind: api.ActPass, Right: api.Right{Counter: item, Way: way, N: n}, To: to}
				p.same(fmt.Sprintf("pass %d %s %d %s to %d", till, name, n, ways[way], to), do(till, a, api.Loose))
			case 5:
				value := p.lines.View(till).Pools[item].Value
				p.same(fmt.Sprintf("count %d %s %d", till, name, value-n), do(till, counted(item, -n, value), api.Loose))
			default:
				p.rounds(1)
			}
		}
		if len(p.lines.Log()) == 0 {
			t.Errorf("seed %d: no entry", seed)
		}
	}
}

// What is no line is refused and changes nothing, whatever bytes it has.
func TestW13NoLines(t *testing.T) {
	r := newRig(t, conf())
	before := r.all()
	draw := rand.New(rand.NewSource(1))
	alphabet := []string{"sale", "tick", "state", " ", "  ", "0", "1", "tea", "sure", "\"", "\\", "\t", "\n", "\x00", "é", "\xff", "-", "server", "down", "to", "9"}
	for range 20000 {
		line := ""
		for range 1 + draw.Intn(9) {
			line += alphabet[draw.Intn(len(alphabet))]
		}
		words, errno := text.Words(line)
		if errno == api.OK && (len(words) == 0 || read(words) != nil) {
			continue
		}
		if errno == api.OK {
			errno = api.ErrShopLine
		}
		if got, told := r.Say(line); told != errno || got != nil {
			t.Fatalf("%q: %q, %d, want %d", line, got, told, errno)
		}
	}
	if r.all() != before {
		t.Errorf("it is %s\nwas %s", r.all(), before)
	}
}

// What is advised where nothing is held is the average, rounded up: it lies between the least and the greatest that was noted, never moves away from what is noted, and is that if all are alike.
func TestW14Trends(t *testing.T) {
	for seed := range int64(30) {
		draw := rand.New(rand.NewSource(seed))
		r := newRig(t, conf())
		least, most, had := int64(1)<<62, int64(-1), int64(0)
		top := []int64{3, 40, 9999, api.MaxAmount}[seed%4]
		for day := range 60 {
			sold := draw.Int63n(top + 1)
			if seed%5 == 0 {
				sold = top
			}
			if sold > 0 {
				r.tells(fmt.Sprintf("sale 0 tea %d", sold))
			}
			r.says("close 0")
			var now int64
			if _, err := fmt.Sscanf(r.tells("advise 0")[0], "tea %d", &now); err != nil {
				t.Fatal(err)
			}
			least, most = min(least, sold), max(most, sold)
			if now < least || now > most {
				t.Fatalf("seed %d, day %d: %d is not from %d to %d", seed, day, now, least, most)
			}
			if low, high := min(had, sold), max(had, sold); day > 0 && (now < low || now > high) {
				t.Fatalf("seed %d, day %d: from %d by %d to %d", seed, day, had, sold, now)
			}
			had = now
			r.says("advise 1", "tea 0")
		}
	}
}
