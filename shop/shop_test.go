package shop_test

import (
	"fmt"
	"math"
	"strings"
	"testing"

	"till/api"
	"till/book"
	"till/link"
	"till/shop"
	"till/world"
)

// conf is the configuration of the chapter's examples: the server is node 2.
func conf() api.Config {
	return api.Config{Tills: 2, Counters: []api.Counter{{Name: "tea", Hi: 10, Start: 6}}, Prices: []api.Price{{Name: "tea", Start: 350}}, Lease: 20, Watch: 30, Beat: 4, Window: 2, Cap: 4, Flight: 50}
}

// store has several counters and prices, and three tills.
func store() api.Config {
	c := conf()
	c.Tills = 3
	c.Counters = []api.Counter{{Name: "Tea", Hi: 90, Start: 40}, {Name: "CAFÉ", Lo: -20, Hi: 20, Start: -3}, {Name: "x.y_z-1", Lo: 5, Hi: 5, Start: 5}}
	c.Prices = []api.Price{{Name: "Tea", Start: 123456}, {Name: "Ω", Start: 0}}
	return c
}

// show tells anything, nil and empty lists alike.
func show(x any) string { return fmt.Sprintf("%+v", x) }

// rig is a shop whose answers are looked at.
type rig struct {
	*shop.Shop
	t *testing.T
	c api.Config
}

func newRig(t *testing.T, c api.Config) *rig {
	t.Helper()
	s, errno := shop.New(c)
	if errno != api.OK || s == nil {
		t.Fatalf("New: %v, %d", s, errno)
	}
	return &rig{Shop: s, t: t, c: c}
}

// says: the line can be, and tells these lines.
func (r *rig) says(line string, want ...string) {
	r.t.Helper()
	if got, errno := r.Say(line); errno != api.OK || strings.Join(got, " / ") != strings.Join(want, " / ") || len(got) != len(want) {
		r.t.Fatalf("%q: %q, %d, want %q", line, got, errno, want)
	}
}

// tells is what a line that can be tells.
func (r *rig) tells(line string) []string {
	r.t.Helper()
	got, errno := r.Say(line)
	if errno != api.OK {
		r.t.Fatalf("%q: %q, %d", line, got, errno)
	}
	return got
}

// refuses: the error, and nothing has changed.
func (r *rig) refuses(line string, want api.Errno) {
	r.t.Helper()
	before := r.all()
	if got, errno := r.Say(line); errno != want || got != nil {
		r.t.Errorf("%q: %q, %d, want %d", line, got, errno, want)
	}
	if now := r.all(); now != before {
		r.t.Fatalf("%q was refused, and has changed\n%s\nto\n%s", line, before, now)
	}
}

// plays: the event can be, and tells these lines.
func (r *rig) plays(e api.Event, want ...string) {
	r.t.Helper()
	if got, errno := r.Step(e); errno != api.OK || show(got) != show(want) || len(got) != len(want) {
		r.t.Fatalf("%+v: %q, %d, want %q", e, got, errno, want)
	}
}

// refusesEvent: the error, and nothing has changed.
func (r *rig) refusesEvent(e api.Event, want api.Errno) {
	r.t.Helper()
	before := r.all()
	if got, errno := r.Step(e); errno != want || got != nil {
		r.t.Errorf("%+v: %q, %d, want %d", e, got, errno, want)
	}
	if now := r.all(); now != before {
		r.t.Fatalf("%+v was refused, and has changed\n%s\nto\n%s", e, before, now)
	}
}

// all is everything that a shop tells.
func (r *rig) all() string {
	r.t.Helper()
	s := show([]any{r.Log(), r.State()})
	for _, line := range []string{"state", "nodes", "flights", "log", "sum", "check"} {
		s += "\n" + line + show(r.tells(line))
	}
	for till := -1; till <= r.c.Tills+1; till++ {
		s += "\n" + show([]any{r.Base(till), r.Pending(till), r.View(till)})
		for _, line := range []string{"view ", "report ", "advise "} {
			if till >= 0 && till < r.c.Tills {
				s += show(r.tells(line + fmt.Sprint(till)))
			}
		}
	}
	return s
}

// onWay is how many messages are on their way.
func (r *rig) onWay() int {
	r.t.Helper()
	return len(r.tells("flights"))
}

// flush delivers all that is on its way; rounds, and lets all that are up tick behind it.
func (r *rig) flush() {
	r.t.Helper()
	for range r.onWay() {
		r.says("deliver 0")
	}
}

func (r *rig) rounds(n int) {
	r.t.Helper()
	for range n {
		r.flush()
		for _, line := range r.tells("nodes") {
			if node, life, _ := strings.Cut(line, " "); strings.HasPrefix(life, "up") {
				r.says("tick " + node)
			}
		}
	}
}

// without are rounds in which a till neither ticks nor hears anything.
func (r *rig) without(till, n int) {
	r.t.Helper()
	silent := fmt.Sprint(till)
	for range n {
		for _, line := range r.tells("flights") {
			if strings.HasPrefix(line, silent+" ") {
				r.says("drop 0")
			} else {
				r.says("deliver 0")
			}
		}
		for _, line := range r.tells("nodes") {
			if node, life, _ := strings.Cut(line, " "); node != silent && strings.HasPrefix(life, "up") {
				r.says("tick " + node)
			}
		}
	}
}

func right(way int, n int64) api.Right { return api.Right{Way: way, N: n} }

func write(changes ...int64) api.Act {
	a := api.Act{Kind: api.ActWrite}
	for _, n := range changes {
		a.Lines = append(a.Lines, api.Line{Change: n})
	}
	return a
}

func do(till int, a api.Act, takes int) api.Event {
	return api.Event{Kind: api.EventDo, Node: till, Act: a, Takes: takes}
}

// The chapter's examples.
func TestP20Examples(t *testing.T) {
	r := newRig(t, conf())
	first := []string{"tea 6 down 6 0 up 4 0", "tea 3.50 0"}
	r.says("state", first...)
	r.says("view 0", first...)
	r.says("nodes", "0 up 1 0 0", "1 up 1 0 0", "server up 1")
	r.says("sale 0 tea 2", "act 0 1 tentative")
	r.says("view 0", "tea 4 down 4 0 up 6 0", "tea 3.50 0")
	r.says("state", first...)
	r.refuses("sale 0 tea 2 sure", api.ErrDraftRights)
	r.refuses("sale 0 milk 1", api.ErrShopName)
	r.refuses("sale 9 tea 1", api.ErrShopName)
	r.refuses("sale 0 tea", api.ErrShopLine)
	r.refuses("sale 0 tea 0", api.ErrShopLine)
	r.says("want 1 tea 3 down", "act 1 1")
	r.says("count 1 tea 6", "same")
	r.says("")
	r.says("  ")
	r.refuses("fly", api.ErrShopLine)
}

func TestP20_1Refused(t *testing.T) {
	for _, x := range []func(c *api.Config){
		func(c *api.Config) { *c = api.Config{} },
		func(c *api.Config) { c.Tills = 0 },
		func(c *api.Config) { c.Tills = 9 },
		func(c *api.Config) { c.Tills = -1 },
		func(c *api.Config) { c.Tills = math.MaxInt },
		func(c *api.Config) { c.Counters = nil },
		func(c *api.Config) { c.Counters[0].Start = 11 },
		func(c *api.Config) { c.Counters = append(c.Counters, api.Counter{Name: "TEA"}) },
		func(c *api.Config) { c.Prices[0].Start = -1 },
		func(c *api.Config) { c.Prices[0].Name = "green tea" },
		func(c *api.Config) { c.Watch = 7 },
		func(c *api.Config) { c.Flight = api.MaxFlight + 1 },
	} {
		c := conf()
		x(&c)
		if s, errno := shop.New(c); s != nil || errno != api.ErrWorldConfig {
			t.Errorf("New(%+v): %v, %d", c, s, errno)
		}
	}
}

func TestP20_1New(t *testing.T) {
	for _, tills := range []int{1, 2, api.MaxTills} {
		c := store()
		c.Tills = tills
		r := newRig(t, c)
		first := []string{"Tea 40 down 40 0 up 50 0", "CAFÉ -3 down 17 0 up 23 0", "x.y_z-1 5 down 0 0 up 0 0", "Tea 1'234.56 0", "Ω 0.00 0"}
		r.says("state", first...)
		var nodes []string
		for till := range tills {
			n := fmt.Sprint(till)
			nodes = append(nodes, n+" up 1 0 0")
			r.says("view "+n, first...)
			r.says("advise "+n, "Tea 0", "CAFÉ 0", "x.y_z-1 0")
			r.says("report " + n)
			if show(r.Base(till)) != show(book.First(c)) || show(r.View(till)) != show(book.First(c)) || len(r.Pending(till)) != 0 {
				t.Errorf("till %d: %s", till, r.all())
			}
		}
		r.says("nodes", append(nodes, "server up 1")...)
		r.says("flights")
		r.says("log")
		r.says("sum", "Tea 0", "CAFÉ 0", "x.y_z-1 0")
		r.says("check", "fine")
		if len(r.Log()) != 0 || show(r.State()) != show(book.First(c)) {
			t.Errorf("%s", r.all())
		}
	}
}

// The greatest configuration: as many counters, prices and tills as may be.
func TestP20_1Greatest(t *testing.T) {
	c := conf()
	c.Tills, c.Counters, c.Prices = api.MaxTills, nil, nil
	for i := range api.MaxCounters {
		c.Counters = append(c.Counters, api.Counter{Name: fmt.Sprint("c", i), Lo: -api.MaxBound, Hi: api.MaxBound, Start: int64(i)})
		c.Prices = append(c.Prices, api.Price{Name: fmt.Sprint("p", i), Start: api.MaxAmount})
	}
	r := newRig(t, c)
	lines := r.tells("state")
	if len(lines) != 128 || lines[63] != "c63 63 down 9007199254741055 0 up 9007199254740929 0" || lines[127] != "p63 10'995'116'277.76 0" {
		t.Errorf("%q", lines)
	}
	r.says("sale 7 C63 1099511627776", "act 7 1 tentative")
	r.says("close 7")
	advised := r.tells("advise 7")
	if len(advised) != 64 || advised[63] != "c63 1099511627776" || advised[62] != "c62 0" {
		t.Errorf("%q", advised)
	}
}

func TestP20_2Lines(t *testing.T) {
	r := newRig(t, conf())
	r.rounds(5)
	r.plays(do(0, api.Act{Kind: api.ActAsk, Right: right(api.Down, 4)}, api.Sure), "act 0 1")
	r.rounds(6)
	r.plays(do(0, write(-1), api.Loose), "act 0 2 tentative")
	r.plays(do(0, write(-1), api.Best), "act 0 3 sure")
	r.plays(do(0, write(-1), api.Sure), "act 0 4 sure")
	r.plays(do(0, write(1), api.Best), "act 0 5 tentative")
	r.plays(do(0, api.Act{Kind: api.ActGive, Right: right(api.Down, 1)}, api.Best), "act 0 6")
	r.plays(do(0, api.Act{Kind: api.ActPass, Right: right(api.Down, 1), To: 1}, 9), "act 0 7")
	r.plays(do(1, write(-1), 7), "act 1 1 tentative")
	guarded := write(-1)
	guarded.Guards = []api.Guard{{Kind: api.GuardLeast, N: 1}}
	r.plays(do(1, guarded, api.Best), "act 1 2 tentative")
	for _, e := range []api.Event{
		{Kind: api.EventTick, Node: 0}, {Kind: api.EventTick, Node: 2}, {Kind: api.EventDeliver}, {Kind: api.EventDouble}, {Kind: api.EventDrop},
		{Kind: api.EventCrash, Node: 1}, {Kind: api.EventRestart, Node: 1}, {Kind: api.EventInject, Node: 1, Bytes: []byte{7}},
		{Kind: api.EventTick, Node: 0, Act: write(-1), Takes: api.Sure},
	} {
		r.plays(e)
	}
}

func TestP20_2Refused(t *testing.T) {
	r := newRig(t, conf())
	r.refusesEvent(api.Event{}, api.ErrWorldEvent)
	r.refusesEvent(api.Event{Kind: 9}, api.ErrWorldEvent)
	r.refusesEvent(api.Event{Kind: -1}, api.ErrWorldEvent)
	r.refusesEvent(api.Event{Kind: api.EventDeliver}, api.ErrWorldEvent)
	r.refusesEvent(api.Event{Kind: api.EventTick, Node: 3}, api.ErrWorldEvent)
	r.refusesEvent(api.Event{Kind: api.EventRestart, Node: 2}, api.ErrWorldEvent)
	r.refusesEvent(api.Event{Kind: api.EventInject, Node: 2, Bytes: link.EncodeFrame(api.Frame{To: 2, Mine: 1})}, api.ErrWorldEvent)
	for _, till := range []int{-1, 2, 3, math.MinInt, math.MaxInt} {
		r.refusesEvent(do(till, write(-1), api.Loose), api.ErrWorldEvent)
	}
	r.refusesEvent(do(0, write(), api.Loose), api.ErrActLine)
	r.refusesEvent(do(0, write(math.MinInt64), api.Loose), api.ErrActLine)
	r.refusesEvent(do(0, api.Act{Kind: api.ActWrite, Lines: []api.Line{{Counter: 1, Change: -1}}}, api.Loose), api.ErrActLine)
	r.refusesEvent(do(0, api.Act{}, api.Loose), api.ErrActKind)
	r.refusesEvent(do(0, api.Act{Kind: api.ActYield}, api.Loose), api.ErrActKind)
	r.refusesEvent(do(0, write(-1), api.Sure), api.ErrDraftRights)
	r.refusesEvent(do(0, api.Act{Kind: api.ActGive, Right: right(api.Up, 1)}, api.Loose), api.ErrDraftRights)
	r.says("close 0") // nothing of what was refused was sold
	r.says("advise 0", "tea 0")
	r.says("close 0")
	r.says("advise 0", "tea 0")
}

// What a till has sold are the lines below 0 of its writes that were answered.
func TestP20_2Sold(t *testing.T) {
	c := store()
	r := newRig(t, c)
	line := func(counter int, n int64) api.Line { return api.Line{Counter: counter, Change: n} }
	r.plays(do(0, api.Act{Kind: api.ActWrite, Lines: []api.Line{line(0, -5), line(1, 7), line(0, 9), line(0, -2)}}, api.Best), "act 0 1 tentative")
	other := api.Act{Kind: api.ActWrite, Lines: []api.Line{line(1, -30)}, Guards: []api.Guard{{Kind: api.GuardIs, N: -9}}, Merge: api.Merge{Kind: api.MergeOther, Other: []api.Line{line(0, -8)}}}
	r.plays(do(0, other, api.Best), "act 0 2 tentative")
	r.says("count 0 tea 1", "act 0 3 tentative") // the view has 34 of them
	r.says("refund 0 tea 3", "act 0 4 tentative")
	r.says("price 0 tea 7", "act 0 5 tentative")
	r.says("want 0 tea 9 down", "act 0 6")
	r.says("sale 1 x.y_z-1 3 tea 1", "act 1 1 tentative")
	e := do(0, write(-11), api.Loose)
	e.Off, e.Picks = 1, []int{-1, -1}
	r.plays(e) // its power goes off: nothing is answered, though the act is kept
	if len(r.Pending(0)) != 7 {
		t.Fatalf("%+v", r.Pending(0))
	}
	r.says("restart 0")
	e.Off = 9
	r.plays(e, "act 0 8 tentative") // so many strokes there are not
	for range 2 {
		r.says("advise 0", "Tea 0", "CAFÉ 0", "x.y_z-1 0")
		r.says("advise 1", "Tea 0", "CAFÉ 0", "x.y_z-1 0")
	}
	r.says("close 0")
	tea := 5 + 2 + (34 - 1) + 11 // the 8 of the merge are no line
	r.says("advise 0", fmt.Sprint("Tea ", tea), "CAFÉ 30", "x.y_z-1 0")
	r.says("advise 1", "Tea 0", "CAFÉ 0", "x.y_z-1 0")
	r.says("close 1")
	r.says("advise 1", "Tea 1", "CAFÉ 0", "x.y_z-1 3")
	r.says("close 2")
	r.says("advise 2", "Tea 0", "CAFÉ 0", "x.y_z-1 0")
}

// tellsLike: a world that has met the same events tells the same.
func (r *rig) tellsLike(w *world.World) {
	r.t.Helper()
	if show(r.Log()) != show(w.Log()) || show(r.State()) != show(w.State()) {
		r.t.Fatalf("Log, State: %+v %+v\nwant %+v %+v", r.Log(), r.State(), w.Log(), w.State())
	}
	for _, till := range []int{-1, 0, 1, 2, 3, math.MinInt, math.MaxInt} {
		if show(r.Base(till)) != show(w.Base(till)) || show(r.Pending(till)) != show(w.Pending(till)) || show(r.View(till)) != show(w.View(till)) {
			r.t.Fatalf("till %d: %+v %+v %+v", till, r.Base(till), r.Pending(till), r.View(till))
		}
	}
}

func TestP20_4LikeTheWorld(t *testing.T) {
	r := newRig(t, conf())
	w, _ := world.New(conf())
	play := func(e api.Event) {
		t.Helper()
		_, errno := r.Step(e)
		if _, wanted := w.Step(e); errno != wanted {
			t.Fatalf("%+v: %d, want %d", e, errno, wanted)
		}
		r.tellsLike(w)
	}
	for i := range 40 {
		switch i {
		case 12:
			play(do(0, api.Act{Kind: api.ActAsk, Right: right(api.Down, 3)}, api.Loose))
		case 20, 21, 22, 23:
			play(do(i%2, write(-1), api.Best))
		case 26:
			play(api.Event{Kind: api.EventCrash, Node: 0})
			play(do(1, write(1), api.Best))
		case 28:
			play(api.Event{Kind: api.EventCrash, Node: 2})
			play(api.Event{Kind: api.EventRestart, Node: 0})
		case 30:
			play(api.Event{Kind: api.EventRestart, Node: 2})
		}
		for range w.Len() {
			play(api.Event{Kind: api.EventDeliver})
		}
		for node := range 3 {
			play(api.Event{Kind: api.EventTick, Node: node})
		}
	}
	if len(r.Log()) != 6 {
		t.Errorf("%d entries", len(r.Log()))
	}
	for _, till := range []int{-1, 2, 3, math.MinInt, math.MaxInt} {
		if show(r.Base(till)) != show(api.State{}) || show(r.View(till)) != show(api.State{}) || len(r.Pending(till)) != 0 {
			t.Errorf("till %d: %+v %+v", till, r.Base(till), r.Pending(till))
		}
	}
}
