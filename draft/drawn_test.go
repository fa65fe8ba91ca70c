package draft_test

import (
	"fmt"
	"math/rand"
	"slices"
	"testing"

	"till/api"
	"till/book"
	"till/draft"
	"till/share"
)

// chance draws what may be, the edges often.
type chance struct{ *rand.Rand }

func (r chance) config() api.Config {
	c := tea()
	c.Tills, c.Counters, c.Prices = 1+r.Intn(4), nil, nil
	for i := range 1 + r.Intn(3) {
		bound := []int64{6, 30, 300, api.MaxBound}[r.Intn(4)]
		x := api.Counter{Name: string(rune('a' + i)), Lo: -r.Int63n(bound + 1), Hi: r.Int63n(bound + 1)}
		x.Start = x.Lo + r.Int63n(x.Hi-x.Lo+1)
		c.Counters = append(c.Counters, x)
	}
	for i := range r.Intn(3) {
		c.Prices = append(c.Prices, api.Price{Name: string(rune('a' + i)), Start: r.Int63n(1000)})
	}
	return c
}

// near is a number from 1 to MaxAmount that often is just n, or next to it.
func (r chance) near(n int64) int64 {
	switch r.Intn(4) {
	case 0:
		n = r.Int63n(9)
	case 1:
		n += int64(r.Intn(3)) - 1
	case 2:
		n = r.Int63n(min(n, api.MaxAmount) + 1)
	}
	return min(max(n, 1), api.MaxAmount)
}

func change(x api.Right) api.Line {
	if x.Way == api.Down {
		return line(x.Counter, -x.N)
	}
	return line(x.Counter, x.N)
}

// right draws one of which there often is just so much as told by have.
func (r chance) right(c api.Config, have func(counter, way int) int64) api.Right {
	x := api.Right{Counter: r.Intn(len(c.Counters)), Way: r.Intn(2)}
	x.N = r.near(have(x.Counter, x.Way))
	return x
}

func (r chance) lines(c api.Config, n int, have func(counter, way int) int64) []api.Line {
	var out []api.Line
	for range n {
		out = append(out, change(r.right(c, have)))
	}
	return out
}

func (r chance) write(c api.Config, s api.State, have func(counter, way int) int64) api.Act {
	a := write(r.lines(c, 1+r.Intn(3), have)...)
	if r.Intn(2) > 0 {
		return a
	}
	if a.Merge.Kind = r.Intn(4); a.Merge.Kind == api.MergeOther {
		a.Merge.Other = r.lines(c, 1+r.Intn(2), have)
	}
	for _, price := range r.Perm(len(c.Prices))[:r.Intn(len(c.Prices)+1)] {
		a.Sets = append(a.Sets, api.Set{Price: price, Version: -1, N: r.Int63n(1000)})
	}
	if r.Intn(2) == 0 {
		what := r.Intn(len(c.Counters))
		a.Guards = []api.Guard{{Kind: api.GuardLeast + r.Intn(3), What: what, N: s.Pools[what].Value}}
	}
	return a
}

// act draws one of a till that may be, whether or not it can be carried out; it may have rights by have.
func (r chance) act(c api.Config, s api.State, till int, have func(counter, way int) int64) api.Act {
	free := func(counter, way int) int64 { return s.Pools[counter].Free[way] }
	switch k := r.Intn(10); {
	case k < 3:
		return ask(r.right(c, free))
	case k < 4:
		return give(r.right(c, have))
	case k < 5 && c.Tills > 1:
		return pass((till+1+r.Intn(c.Tills-1))%c.Tills, r.right(c, have))
	case k < 6:
		return r.write(c, s, free)
	}
	return r.write(c, s, have)
}

// spoilt is an act with something in it that may not be, or that is another one.
func (r chance) spoilt(a api.Act) api.Act {
	switch r.Intn(9) {
	case 0:
		a.Kind = r.Intn(8) - 1
	case 1:
		a.Number += uint64(r.Intn(3)) - 1
	case 2:
		a.Till += r.Intn(3) - 1
	case 3:
		a.Sure = !a.Sure
	case 4:
		a.Lines = append(slices.Clone(a.Lines), line(r.Intn(5)-1, int64(r.Intn(5)-2)))
	case 5:
		a.Right.N += int64(r.Intn(5)) - 2
	case 6:
		a.To = r.Intn(6) - 1
	case 7:
		a.Gen += uint64(r.Intn(3)) - 1
	case 8:
		a.Rights = slices.Clone(a.Rights)
		for i := range a.Rights {
			a.Rights[i].N += int64(r.Intn(3)) - 1
		}
	}
	return a
}

// others draws an entry that is not of an act of the till: an act of another, or a fence.
func (r chance) others(c api.Config, s api.State, till int) (api.Entry, bool) {
	if c.Tills == 1 || r.Intn(5) == 0 {
		return book.Fence(c, s, r.Intn(c.Tills))
	}
	other := (till + 1 + r.Intn(c.Tills-1)) % c.Tills
	a := r.act(c, s, other, func(counter, way int) int64 { return s.Pools[counter].Held[other][way] })
	if a.Kind == api.ActPass && r.Intn(2) == 0 {
		a.To = till
	}
	if s.Owed[other] && r.Intn(2) == 0 {
		a = yield(s.Gen[other], book.Held(s, other)...)
	}
	return book.Next(c, s, as(other, s.Last[other]+1, a)), true
}

// walk plays a draft and its model side by side.
type walk struct {
	chance
	*testing.T
	c      api.Config
	till   int
	d      *draft.Draft
	m      *model
	fenced bool // by the last entry that was of any weight to what is available
	met    map[string]int
}

// seen counts what was met, so that a test can tell whether the draws are worth anything.
func (w *walk) seen(what string, errno api.Errno) { w.met[fmt.Sprint(what, " ", errno)]++ }

func (w *walk) holds(what string) {
	w.Helper()
	same(w.T, what+": Base", w.d.Base(), w.m.base)
	same(w.T, what+": Pending", w.d.Pending(), w.m.pending)
	same(w.T, what+": View", w.d.View(), w.m.view())
	same(w.T, what+": Next", w.d.Next(), w.m.next())
	// P13.7: of each kind the base holds what the pending acts need.
	for counter := range w.c.Counters {
		for way := range 2 {
			if w.m.left(counter, way) < 0 {
				w.Errorf("%s: of counter %d, way %d, there are %d: %+v", what, counter, way, w.m.left(counter, way), w.m)
			}
		}
	}
	if have := share.Available(w.d.Base(), w.d.Pending(), w.till); w.fenced && len(have) > 0 {
		w.Errorf("%s: behind a fence there is %+v", what, have)
	}
	if w.Failed() {
		w.FailNow()
	}
}

func (w *walk) issue() {
	a, takes, runs := w.act(w.c, w.m.base, w.till, w.m.left), w.Intn(5)-1, w.Intn(4) > 0
	if w.Intn(6) == 0 {
		a = w.spoilt(a)
	}
	number, yes, errno := w.d.Issue(a, takes, runs)
	n, sure, want := w.m.issue(a, takes, runs)
	same(w.T, fmt.Sprintf("Issue(%+v, %d, %v)", a, takes, runs), []any{number, yes, errno}, []any{n, sure, want})
	w.seen("issue", errno)
	w.seen(fmt.Sprint("issue ", a.Kind, yes), errno)
}

// next draws a next act, as if it had been issued.
func (w *walk) next() api.Act {
	a := as(w.till, w.m.next(), w.act(w.c, w.m.base, w.till, w.m.left))
	a.Sure = a.Kind == api.ActWrite && len(a.Guards)+len(a.Sets)+a.Merge.Kind == 0 && w.Intn(2) == 0
	return a
}

func (w *walk) put() {
	a := w.next()
	if w.Intn(4) == 0 {
		a = w.spoilt(a)
	}
	errno := w.d.Put(a)
	same(w.T, fmt.Sprintf("Put(%+v)", a), errno, w.m.put(a))
	w.seen("put", errno)
}

// entry draws one: of the first pending act, of another till, a fence; sometimes a wrong one.
func (w *walk) entry() (api.Entry, bool) {
	e, ok := w.others(w.c, w.m.base, w.till)
	switch k := w.Intn(12); {
	case k < 5 && len(w.m.pending) > 0:
		e, ok = book.Next(w.c, w.m.base, w.m.pending[0]), true
	case k < 6:
		e, ok = book.Fence(w.c, w.m.base, w.till)
	case k < 7: // one of this till that was never issued
		a := w.act(w.c, w.m.base, w.till, w.m.left)
		if len(w.m.pending) > 0 && w.Intn(2) == 0 {
			a = w.spoilt(w.m.pending[0])
		}
		e, ok = book.Next(w.c, w.m.base, as(w.till, w.m.base.Last[w.till]+1, a)), true
	case k < 8:
		e.Position += uint64(w.Intn(3)) - 1
		e.Outcome += w.Intn(3) - 1
	}
	return e, ok
}

func (w *walk) take() {
	e, ok := w.entry()
	if !ok {
		return
	}
	held := book.Held(w.m.base, w.till)
	a, due, errno := w.d.Take(e)
	b, too, want := w.m.take(e)
	same(w.T, fmt.Sprintf("Take(%+v)", e), []any{a, due, errno}, []any{b, too, want})
	w.seen("take", errno)
	if errno != api.OK {
		return
	}
	if e.Act.Kind == api.ActNone && e.Fence == w.till {
		w.fenced = true
	} else if raised(held, book.Held(w.m.base, w.till)) {
		w.fenced = false
	}
	w.asPromised(e)
}

// raised tells whether of any kind there is more than there was.
func raised(had, have []api.Right) bool {
	return slices.ContainsFunc(have, func(x api.Right) bool {
		return !slices.ContainsFunc(had, func(y api.Right) bool { return x.Counter == y.Counter && x.Way == y.Way && x.N <= y.N })
	})
}

// asPromised is P13.8: what becomes of the till's own acts.
func (w *walk) asPromised(e api.Entry) {
	if e.Act.Kind == api.ActNone || e.Act.Till != w.till {
		return
	}
	w.seen(fmt.Sprint("own ", e.Act.Kind, e.Act.Sure), api.Errno(e.Outcome))
	switch {
	case e.Act.Sure:
		if e.Outcome != api.Applied || !slices.Equal(e.Made, e.Act.Lines) || len(e.Sets) > 0 {
			w.Fatalf("a sure write: %+v", e)
		}
	case e.Act.Kind == api.ActGive || e.Act.Kind == api.ActPass || e.Act.Kind == api.ActYield:
		// No pass is too much for To: of a kind there are never more than MaxHeld in all.
		if e.Outcome != api.Done {
			w.Fatalf("a give, a pass or a yield: %+v", e)
		}
	}
}

// load goes on with what is loaded, or with a copy (P13.11), and looks whether what went ahead is still as it was.
func (w *walk) load() {
	before := told(w.d)
	old := w.d
	if w.Intn(2) == 0 {
		w.d = w.d.Copy()
	} else {
		d, errno := draft.Load(w.c, w.till, w.m.entries, w.m.pending)
		if errno != api.OK {
			w.Fatalf("Load of what is there: %d", errno)
		}
		w.d = d
	}
	for range 3 {
		w.issue()
		w.take()
	}
	same(w.T, "what was copied or loaded from", told(old), before)
}

// loadSpoilt loads something that is nearly what is there.
func (w *walk) loadSpoilt() {
	entries, pending := slices.Clone(w.m.entries), slices.Clone(w.m.pending)
	switch k := w.Intn(7); {
	case k == 0 && len(entries) > 0:
		entries = entries[:w.Intn(len(entries))]
	case k == 1 && len(entries) > 0:
		entries[w.Intn(len(entries))].Outcome = api.Done
	case k == 2 && len(pending) > 0:
		place := w.Intn(len(pending))
		pending = slices.Delete(pending, place, place+1)
	case k == 3 && len(pending) > 0:
		pending = pending[:w.Intn(len(pending))]
	case k == 4:
		pending = append(pending, as(w.till, w.m.next(), yield(w.m.base.Gen[w.till], w.m.available()...)))
	case k == 5:
		pending = append(pending, w.next())
	case len(pending) > 0:
		place := w.Intn(len(pending))
		pending[place] = w.spoilt(pending[place])
	}
	d, errno := draft.Load(w.c, w.till, entries, pending)
	m, want := loadModel(w.c, w.till, entries, pending)
	if errno != want || (d != nil) != (m != nil) {
		w.Fatalf("Load(%+v, %+v): %v, %d, want %d", entries, pending, d != nil, errno, want)
	}
	if d != nil {
		same(w.T, "Base of what is loaded", d.Base(), m.base)
		same(w.T, "Pending of what is loaded", d.Pending(), m.pending)
	}
	w.seen("load", errno)
}

// end takes the entries of all that is pending (P13.10).
func (w *walk) end() {
	for len(w.d.Pending()) > 0 {
		e := first(w.c, w.d)
		if _, due, errno := w.d.Take(e); due || errno != api.OK {
			w.Fatalf("Take(%+v): %d", e, errno)
		}
		w.asPromised(e)
	}
	same(w.T, "View in the end", w.d.View(), w.d.Base())
	same(w.T, "Next in the end", w.d.Next(), w.d.Base().Last[w.till]+1)
	if !book.Right(w.c, w.d.Base()) {
		w.Errorf("a base that is not right: %+v", w.d.Base())
	}
}

func TestP13_7To11Drawn(t *testing.T) {
	met := map[string]int{}
	for seed := range int64(150) {
		r := chance{rand.New(rand.NewSource(seed))}
		c := r.config()
		till := r.Intn(c.Tills)
		w := &walk{chance: r, T: t, c: c, till: till, d: draft.New(c, till), m: newModel(c, till), met: met}
		for seed%6 == 0 && len(w.m.pending) < api.MaxPending-2 { // some begin nearly full
			w.issue()
		}
		busy := 1 + r.Intn(8) // how much more is issued than taken
		for range 100 {
			switch k := r.Intn(busy + 6); {
			case k < busy:
				w.issue()
			case k < busy+1:
				w.put()
			case k < busy+4:
				w.take()
			case k < busy+5:
				w.load()
			default:
				w.loadSpoilt()
			}
			w.holds(fmt.Sprint("seed ", seed))
		}
		w.end()
	}
	worthIt(t, met)
}

// worthIt tells whether the draws have met all that they should.
func worthIt(t *testing.T, met map[string]int) {
	t.Helper()
	for what, errnos := range map[string][]api.Errno{
		"issue":        {api.OK, api.ErrActKind, api.ErrActLine, api.ErrActRight, api.ErrDraftFull, api.ErrDraftRights},
		"put":          {api.OK, api.ErrDraftOrder, api.ErrDraftFull, api.ErrDraftRights},
		"take":         {api.OK, api.ErrDraftOrder, api.ErrBookAct, api.ErrBookOutcome, api.ErrBookFence},
		"load":         {api.OK, api.ErrBookOutcome, api.ErrDraftOrder, api.ErrDraftRights},
		"issue 1 true": {api.OK}, "issue 1 false": {api.OK, api.ErrDraftRights},
		"issue 3 false": {api.OK, api.ErrDraftRights}, "issue 4 false": {api.OK, api.ErrDraftRights},
		"own 1 true": {api.Applied}, "own 1 false": {api.Applied, api.Merged, api.Rejected}, "own 2 false": {api.Granted},
		"own 3 false": {api.Done}, "own 4 false": {api.Done}, "own 5 false": {api.Done},
	} {
		for _, errno := range errnos {
			if n := met[fmt.Sprint(what, " ", errno)]; n < 20 {
				t.Errorf("%s with %d was met %d times only", what, errno, n)
			}
		}
	}
}
