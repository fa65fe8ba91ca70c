package shop_test

import (
	"fmt"
	"strings"
	"testing"

	"till/api"
)

// pair is two shops that are told the same, the one by lines, the other by events.
type pair struct{ lines, events *rig }

func newPair(t *testing.T, c api.Config) pair { return pair{newRig(t, c), newRig(t, c)} }

// same: what a line does is its event's.
func (p pair) same(line string, e api.Event) {
	p.lines.t.Helper()
	got, errno := p.lines.Say(line)
	want, wanted := p.events.Step(e)
	if show(got) != show(want) || errno != wanted {
		p.lines.t.Fatalf("%q: %q, %d, want %q, %d", line, got, errno, want, wanted)
	}
	if got, want := p.lines.all(), p.events.all(); got != want {
		p.lines.t.Fatalf("behind %q:\n%s\nwant\n%s", line, got, want)
	}
}

func (p pair) rounds(n int) {
	p.lines.t.Helper()
	for range n {
		for range p.lines.onWay() {
			p.same("deliver 0", api.Event{Kind: api.EventDeliver})
		}
		p.same("tick server", api.Event{Kind: api.EventTick, Node: p.lines.c.Tills})
		for till := range p.lines.c.Tills {
			p.same(fmt.Sprint("tick ", till), api.Event{Kind: api.EventTick, Node: till})
		}
	}
}

func TestP20_3Sale(t *testing.T) {
	p := newPair(t, store())
	lines := func(l ...api.Line) api.Act { return api.Act{Kind: api.ActWrite, Lines: l} }
	tea, cafe := api.Line{Change: -3}, api.Line{Counter: 1, Change: -1}
	p.rounds(4)
	for range 2 { // at first it holds nothing, then it holds 9 and 1
		p.same("sale 0 tea 3", do(0, lines(tea), api.Best))
		p.same("sale 0 tea 3 best", do(0, lines(tea), api.Best))
		p.same("sale 0 tea 3 loose", do(0, lines(tea), api.Loose))
		p.same("sale 0 tea 3 sure", do(0, lines(tea), api.Sure))
		p.same("sale 1 tea 3 café 1 tea 3", do(1, lines(tea, cafe, tea), api.Best))
		p.same("sale 1 café 1 tea 3 loose", do(1, lines(cafe, tea), api.Loose))
		p.same("want 0 tea 9 down", do(0, api.Act{Kind: api.ActAsk, Right: right(api.Down, 9)}, api.Loose))
		p.same("want 1 tea 6 down", do(1, api.Act{Kind: api.ActAsk, Right: right(api.Down, 6)}, api.Loose))
		p.same("want 1 café 1 down", do(1, api.Act{Kind: api.ActAsk, Right: api.Right{Counter: 1, N: 1}}, api.Loose))
		p.rounds(16)
	}
	sure := 0
	for _, e := range p.lines.Log() {
		if e.Act.Sure {
			sure++
		}
	}
	if sure != 4 { // of till 0 the first, the second and the fourth; of till 1 the first
		t.Errorf("%d were sure", sure)
	}
	up, home := api.Line{Change: 2}, api.Line{Counter: 1, Change: 4}
	p.same("refund 0 tea 2", do(0, lines(up), api.Best))
	p.same("refund 0 tea 2 sure", do(0, lines(up), api.Sure))
	p.same("refund 2 tea 2 café 4 loose", do(2, lines(up, home), api.Loose))
	p.same("want 2 tea 4 up", do(2, api.Act{Kind: api.ActAsk, Right: right(api.Up, 4)}, api.Loose))
	p.rounds(8)
	p.same("refund 2 tea 2 sure", do(2, lines(up), api.Sure))
	p.same("refund 2 tea 2 best", do(2, lines(up), api.Best))
	p.same("refund 2 tea 2 sure", do(2, lines(up), api.Sure))
	if l := p.lines.Pending(2); len(l) != 2 || !l[0].Sure || !l[1].Sure {
		t.Errorf("%+v", l)
	}
}

func counted(item int, change, value int64) api.Act {
	return api.Act{
		Kind:   api.ActWrite,
		Lines:  []api.Line{{Counter: item, Change: change}},
		Guards: []api.Guard{{Kind: api.GuardIs, What: item, N: value}},
		Merge:  api.Merge{Kind: api.MergeClamp},
	}
}

func TestP20_3Count(t *testing.T) {
	p := newPair(t, store())
	p.lines.says("count 0 tea 40", "same")
	p.lines.says("count 0 café -3", "same")
	p.lines.says("count 0 x.y_z-1 5", "same")
	if len(p.lines.Pending(0)) != 0 || p.lines.all() != p.events.all() {
		t.Errorf("it has done something: %s", p.lines.all())
	}
	p.same("count 0 tea 38", do(0, counted(0, -2, 40), api.Loose))
	p.lines.says("count 0 tea 38", "same") // by the view
	p.lines.says("count 1 tea 40", "same")
	p.same("count 0 tea 40", do(0, counted(0, 2, 38), api.Loose))
	p.same("count 1 café -20", do(1, counted(1, -17, -3), api.Loose))
	p.same("count 1 café 20", do(1, counted(1, 40, -20), api.Loose))
	p.same("count 2 tea 1000", do(2, counted(0, 960, 40), api.Loose)) // more than there can be: it is cut
	p.same("count 2 tea 0", do(2, counted(0, -90, 90), api.Loose))
	p.same("count 2 café 0", do(2, counted(1, 3, -3), api.Loose))
	p.same("count 2 tea 1099511627777", do(2, counted(0, 1099511627777, 0), api.Loose)) // an amount that is too great
	p.same("count 2 tea 1099511627776", do(2, counted(0, 1099511627776, 0), api.Loose))
	p.same("sale 1 tea 40", do(1, write(-40), api.Best))
	p.rounds(8)
	// What a till sees, not what the server has.
	p.same("crash 0", api.Event{Kind: api.EventCrash, Node: 0})
	p.lines.says(fmt.Sprint("count 0 tea ", p.lines.View(0).Pools[0].Value), "same")
	p.same("count 0 tea 1", do(0, counted(0, 1, 0), api.Loose)) // it is down
}

func priced(price int, n, version int64, merge int) api.Act {
	return api.Act{
		Kind:   api.ActWrite,
		Guards: []api.Guard{{Kind: api.GuardVersion, What: price, N: version}},
		Sets:   []api.Set{{Price: price, Version: -1, N: n}},
		Merge:  api.Merge{Kind: merge},
	}
}

func TestP20_3Price(t *testing.T) {
	p := newPair(t, store())
	p.same("price 0 tea 4", do(0, priced(0, 400, 0, api.MergeNone), api.Loose))
	p.same("price 0 TEA 1'234.56", do(0, priced(0, 123456, 1, api.MergeNone), api.Loose)) // by the view
	p.same("price 1 tea 0.05 anyhow", do(1, priced(0, 5, 0, api.MergeForce), api.Loose))
	p.same("price 2 tea 7", do(2, priced(0, 700, 0, api.MergeNone), api.Loose))
	p.same("price 2 Ω 0", do(2, priced(1, 0, 0, api.MergeNone), api.Loose))
	p.rounds(8)
	p.same("price 2 Ω 10'995'116'277.76 anyhow", do(2, priced(1, api.MaxAmount, 1, api.MergeForce), api.Loose))
	p.rounds(8)
	p.lines.says("report 0", "1 applied", "2 rejected") // till 1 was there in between
	p.lines.says("report 1", "1 merged")
	p.lines.says("report 2", "1 rejected", "2 applied", "3 applied")
	if got := p.lines.tells("state"); show(got[3:]) != show([]string{"Tea 0.05 2", "Ω 10'995'116'277.76 2"}) {
		t.Errorf("%q", got)
	}
}

func TestP20_3Rights(t *testing.T) {
	p := newPair(t, store())
	ask := func(kind, counter, way int, n int64) api.Act {
		return api.Act{Kind: kind, Right: api.Right{Counter: counter, Way: way, N: n}}
	}
	pass := ask(api.ActPass, 0, api.Up, 2)
	pass.To = 2
	p.same("give 0 tea 1 down", do(0, ask(api.ActGive, 0, api.Down, 1), api.Loose)) // nothing is held yet
	p.same("pass 0 tea 2 up to 2", do(0, pass, api.Loose))
	p.same("want 0 tea 7 down", do(0, ask(api.ActAsk, 0, api.Down, 7), api.Loose))
	p.same("want 0 tea 3 up", do(0, ask(api.ActAsk, 0, api.Up, 3), api.Loose))
	p.same("want 1 café 1099511627776 up", do(1, ask(api.ActAsk, 1, api.Up, api.MaxAmount), api.Loose))
	p.rounds(8)
	p.lines.says("state", "Tea 40 down 33 7 up 47 3", "CAFÉ -3 down 17 0 up 0 23", "x.y_z-1 5 down 0 0 up 0 0", "Tea 1'234.56 0", "Ω 0.00 0")
	p.same("give 0 tea 3 down", do(0, ask(api.ActGive, 0, api.Down, 3), api.Loose))
	p.same("give 0 tea 5 down", do(0, ask(api.ActGive, 0, api.Down, 5), api.Loose)) // 4 are left
	p.same("pass 0 tea 2 up to 2", do(0, pass, api.Loose))
	pass.To = 0
	p.same("pass 0 tea 1 up to 0", do(0, pass, api.Loose)) // to itself: the world's error
	p.lines.refuses("pass 0 tea 1 up to 0", api.ErrActRight)
	p.lines.refuses("pass 0 tea 1 up to 3", api.ErrShopName)
	pass.To, pass.Right.N = 1, 1
	p.same("pass 0 tea 1 up to 1", do(0, pass, api.Loose))
	p.rounds(8)
	p.lines.says("view 0", "Tea 40 down 36 4 up 47 0", "CAFÉ -3 down 17 0 up 0 0", "x.y_z-1 5 down 0 0 up 0 0", "Tea 1'234.56 0", "Ω 0.00 0")
	p.lines.says("view 1", "Tea 40 down 36 0 up 47 1", "CAFÉ -3 down 17 0 up 0 23", "x.y_z-1 5 down 0 0 up 0 0", "Tea 1'234.56 0", "Ω 0.00 0")
	p.lines.says("view 2", "Tea 40 down 36 0 up 47 2", "CAFÉ -3 down 17 0 up 0 0", "x.y_z-1 5 down 0 0 up 0 0", "Tea 1'234.56 0", "Ω 0.00 0")
	p.lines.says("state", "Tea 40 down 36 4 up 47 3", "CAFÉ -3 down 17 0 up 0 23", "x.y_z-1 5 down 0 0 up 0 0", "Tea 1'234.56 0", "Ω 0.00 0")
}

func TestP20_3Events(t *testing.T) {
	p := newPair(t, conf())
	for node, name := range []string{"0", "1", "server"} {
		p.same("tick "+name, api.Event{Kind: api.EventTick, Node: node})
		p.same("restart "+name, api.Event{Kind: api.EventRestart, Node: node}) // it is up
		p.same("crash "+name, api.Event{Kind: api.EventCrash, Node: node})
		p.same("crash "+name, api.Event{Kind: api.EventCrash, Node: node}) // it is down
		p.same("tick "+name, api.Event{Kind: api.EventTick, Node: node})
		p.same("deliver 0", api.Event{Kind: api.EventDeliver})
		p.same("restart "+name, api.Event{Kind: api.EventRestart, Node: node})
		p.same("tick "+name, api.Event{Kind: api.EventTick, Node: node})
	}
	p.lines.says("nodes", "0 up 2 0 0", "1 up 2 0 0", "server up 2")
	for _, at := range []int{0, 1, 2, 3, 4, 9, 1 << 40} {
		p.same(fmt.Sprint("double ", at), api.Event{Kind: api.EventDouble, Index: at})
		p.same(fmt.Sprint("drop ", at), api.Event{Kind: api.EventDrop, Index: at})
		p.same(fmt.Sprint("deliver ", at), api.Event{Kind: api.EventDeliver, Index: at})
	}
	for range 50 {
		p.same("tick server", api.Event{Kind: api.EventTick, Node: 2})
		p.same("double 0", api.Event{Kind: api.EventDouble})
	}
	p.lines.refuses("double 0", api.ErrWorldEvent) // no room
}

// What stands on the net, by its kinds.
func TestP20_3Flights(t *testing.T) {
	r := newRig(t, conf())
	r.says("flights")
	r.says("tick server")
	r.says("flights", "0 word", "1 word")
	r.says("deliver 0")
	r.says("sale 0 tea 1", "act 0 1 tentative")
	r.says("tick 0")
	r.says("flights", "1 word", "server hello", "server act")
	for node := range 3 {
		r.plays(api.Event{Kind: api.EventInject, Node: node, Bytes: []byte("no frame")[:node*3]})
	}
	r.says("flights", "1 word", "server hello", "server act", "0 none", "1 none", "server none")
	r.says("deliver 1")
	r.says("drop 2")
	r.says("flights", "1 word", "server act", "1 none", "server none")
	r.says("deliver 1")
	r.says("deliver 2")
	r.says("drop 1")
	r.says("tick server")
	r.says("flights", "1 word", "0 entry", "1 word")
	r.says("double 1")
	r.says("flights", "1 word", "0 entry", "1 word", "0 entry")
}

func TestP20_3Nodes(t *testing.T) {
	r := newRig(t, conf())
	r.rounds(5)
	r.says("sale 0 tea 1", "act 0 1 tentative")
	r.says("want 1 tea 1 up", "act 1 1")
	r.rounds(5)
	r.says("nodes", "0 up 1 2 0", "1 up 1 2 0", "server up 1")
	r.says("sale 1 tea 1", "act 1 2 tentative")
	r.says("sale 1 tea 1", "act 1 3 tentative")
	r.says("crash 1")
	r.says("nodes", "0 up 1 2 0", "1 down 1 2 2", "server up 1")
	r.says("crash server")
	r.says("nodes", "0 up 1 2 0", "1 down 1 2 2", "server down 1")
	r.says("restart server")
	r.says("crash server")
	r.says("restart server")
	r.says("restart 1")
	r.says("crash 0")
	r.says("nodes", "0 down 1 2 0", "1 up 2 2 2", "server up 3")
}

// Every kind of entry, with every outcome that it may have, as log and report tell it.
func TestP20_3Log(t *testing.T) {
	c := store()
	c.Watch = 10
	r := newRig(t, c)
	r.rounds(5)
	r.says("want 0 tea 5 down", "act 0 1")
	r.says("sale 1 tea 2 café 1", "act 1 1 tentative")
	r.rounds(6)
	r.says("sale 0 tea 1 tea 2", "act 0 2 sure")
	r.says("give 0 tea 1 down", "act 0 3")
	r.says("count 1 tea 0", "act 1 2 tentative")
	r.says("count 2 café 20", "act 2 1 tentative")
	r.says("sale 2 tea 90", "act 2 2 tentative")
	r.says("price 2 Ω 1 anyhow", "act 2 3 tentative")
	r.rounds(12)
	told := r.tells("log")
	want := []string{"0 1 ask granted", "1 1 write applied", "0 2 write applied", "0 3 give done", "1 2 write merged", "2 1 write applied", "2 2 write rejected", "2 3 write applied"}
	if len(told) != len(want) {
		t.Fatalf("%q", told)
	}
	for i, line := range told {
		at, rest, _ := strings.Cut(line, " ")
		if n := count(want, rest); at != fmt.Sprint(i+1) || n != 1 {
			t.Errorf("%q", told)
		}
	}
	r.says("report 0", "2 applied Tea -1 Tea -2")
	r.says("report 1", "1 applied Tea -2 CAFÉ -1", "2 merged Tea -34")
	r.says("report 2", "1 applied CAFÉ 24", "2 rejected", "3 applied")
	r.says("sum", "Tea -39", "CAFÉ 23", "x.y_z-1 0")
	r.says("refund 1 tea 3", "act 1 3 tentative")
	r.says("want 1 tea 3 up", "act 1 4")
	r.says("price 1 tea 3", "act 1 5 tentative")
	r.says("report 1", "1 applied Tea -2 CAFÉ -1", "2 merged Tea -34", "3 pending", "5 pending")
	r.says("report 0", "2 applied Tea -1 Tea -2")
	r.rounds(12)

	// Till 0 holds a right and is silent: it is fenced, and yields when it hears of it.
	r.says("pass 1 tea 1 up to 2", "act 1 6")
	r.without(0, 12)
	r.rounds(20)
	told = r.tells("log")
	tail := []string{}
	for _, line := range told[8:] {
		_, rest, _ := strings.Cut(line, " ")
		tail = append(tail, rest)
	}
	for _, line := range []string{"1 3 write applied", "1 4 ask granted", "1 5 write applied", "1 6 pass done", "fence 0 1", "0 4 yield done"} {
		if count(tail, line) != 1 {
			t.Errorf("%q is not told: %q", line, told)
		}
	}
	r.says("check", "fine")
	r.says("report 0", "2 applied Tea -1 Tea -2")
}

func count(list []string, x string) (n int) {
	for _, y := range list {
		if x == y {
			n++
		}
	}
	return n
}

// Numbers as great as they may be.
func TestP20_3GreatNumbers(t *testing.T) {
	c := conf()
	c.Counters[0] = api.Counter{Name: "tea", Lo: -api.MaxBound, Hi: api.MaxBound, Start: api.MaxBound}
	r := newRig(t, c)
	r.rounds(5)
	r.says("want 1 tea 1099511627776 down", "act 1 1")
	r.rounds(5)
	r.says("view 1", "tea 9007199254740992 down 18013298997854208 1099511627776 up 0 0", "tea 3.50 0")
	r.says("state", "tea 9007199254740992 down 18013298997854208 1099511627776 up 0 0", "tea 3.50 0")
	r.says("sum", "tea 0")
	r.says("sale 1 tea 1099511627776 sure", "act 1 2 sure")
	r.rounds(5)
	r.says("report 1", "2 applied tea -1099511627776")
	r.says("state", "tea 9006099743113216 down 18013298997854208 0 up 1099511627776 0", "tea 3.50 0")
	r.says("sum", "tea -1099511627776")
}

// The average is kept by till and counter, with the weight 0.25; advise holds what is available against it.
func TestP20_3Advise(t *testing.T) {
	c := store()
	c.Counters[0].Hi, c.Counters[0].Start = 10000, 5000
	r := newRig(t, c)
	r.rounds(5)
	r.says("sale 0 tea 40", "act 0 1 tentative")
	r.says("advise 0", "Tea 0", "CAFÉ 0", "x.y_z-1 0") // not noted yet
	r.says("close 0")
	r.says("advise 0", "Tea 40", "CAFÉ 0", "x.y_z-1 0")
	r.says("close 0") // 40, 0: 30
	r.says("advise 0", "Tea 30", "CAFÉ 0", "x.y_z-1 0")
	r.says("sale 0 tea 20 café 9", "act 0 2 tentative")
	r.says("sale 0 tea 3", "act 0 3 tentative")
	r.says("close 0") // 30, 23: 28.25; 0, 0, 9: 2.25
	r.says("advise 0", "Tea 29", "CAFÉ 3", "x.y_z-1 0")
	r.says("advise 1", "Tea 0", "CAFÉ 0", "x.y_z-1 0")
	r.says("want 0 tea 12 down", "act 0 4")
	r.says("want 0 tea 100 up", "act 0 5")
	r.says("want 0 café 3 down", "act 0 6")
	r.says("advise 0", "Tea 29", "CAFÉ 3", "x.y_z-1 0") // asked for is not held
	r.rounds(8)
	r.says("advise 0", "Tea 17", "CAFÉ 0", "x.y_z-1 0")
	r.says("sale 0 tea 5 sure", "act 0 7 sure")
	r.says("advise 0", "Tea 22", "CAFÉ 0", "x.y_z-1 0") // 7 are available
	r.says("give 0 tea 2 down", "act 0 8")
	r.says("sale 0 tea 4 loose", "act 0 9 tentative") // needs nothing
	r.says("advise 0", "Tea 24", "CAFÉ 0", "x.y_z-1 0")
	r.says("crash 0")
	r.says("advise 0", "Tea 24", "CAFÉ 0", "x.y_z-1 0")
	r.says("close 0") // also while it is down: 28.25, 9: 23.4375; CAFÉ 2.25, 0: 1.6875
	r.says("advise 0", "Tea 19", "CAFÉ 0", "x.y_z-1 0")
	r.says("restart 0")
	r.says("want 0 tea 50 down", "act 0 10")
	r.rounds(12)
	r.says("advise 0", "Tea 0", "CAFÉ 0", "x.y_z-1 0") // more is held than the average
}
