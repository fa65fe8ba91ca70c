package report_test

import (
	"fmt"
	"math"
	"math/big"
	"math/rand"
	"slices"
	"testing"

	"till/api"
	"till/book"
	"till/draft"
	"till/report"
)

// chance draws what may be, and what may not.
type chance struct{ *rand.Rand }

// odd are numbers at which something may break.
var odd = []int{-1, 5, 6, 7, 64, 1 << 32, 1 << 53, math.MaxInt - 1, math.MaxInt, math.MinInt, math.MinInt + 1}

// odd is often a number that is there.
func (r chance) odd() int {
	if r.Intn(4) > 0 {
		return r.Intn(4)
	}
	return odd[r.Intn(len(odd))]
}

func (r chance) rawLines() []api.Line {
	var out []api.Line
	for range r.Intn(5) {
		out = append(out, line(r.odd(), int64(r.odd())-int64(r.odd())))
	}
	return out
}

func (r chance) rawAct() api.Act {
	a := api.Act{Head: api.Head{Till: r.odd(), Number: uint64(r.odd())}, Kind: r.odd(), Sure: r.Intn(2) == 0, Lines: r.rawLines()}
	if r.Intn(2) == 0 {
		a.Kind = api.ActWrite
	}
	a.Sets, a.Rights, a.Gen, a.To = r.rawSets(), []api.Right{down(r.odd(), 1)}, uint64(r.odd()), r.odd()
	a.Merge = api.Merge{Kind: r.odd(), Other: r.rawLines()}
	return a
}

func (r chance) rawSets() []api.Set {
	var out []api.Set
	for range r.Intn(3) {
		out = append(out, api.Set{Price: r.odd(), Version: r.odd(), N: int64(r.odd())})
	}
	return out
}

func (r chance) rawEntry() api.Entry {
	return api.Entry{
		Position: uint64(r.odd()), Act: r.rawAct(), Outcome: r.odd(), Made: r.rawLines(), Sets: r.rawSets(),
		N: int64(r.odd()), Fence: r.odd(), Gen: uint64(r.odd()),
	}
}

// raw draws entries and acts that need not be anything.
func (r chance) raw() ([]api.Entry, []api.Act) {
	var entries []api.Entry
	var pending []api.Act
	for range r.Intn(20) {
		entries = append(entries, r.rawEntry())
	}
	for range r.Intn(6) {
		pending = append(pending, r.rawAct())
	}
	return entries, pending
}

func isOf(e api.Entry, till int) bool { return e.Act.Kind != api.ActNone && e.Act.Till == till }

func modelOf(entries []api.Entry, pending []api.Act, till int) []api.Item {
	var out []api.Item
	for _, e := range entries {
		if isOf(e, till) && e.Act.Kind == api.ActWrite {
			out = append(out, api.Item{Number: e.Act.Head.Number, Sure: e.Act.Sure, Outcome: e.Outcome, Made: e.Made, Sets: e.Sets})
		}
	}
	for _, a := range pending {
		if a.Kind == api.ActWrite && a.Head.Till == till {
			out = append(out, api.Item{Number: a.Head.Number, Sure: a.Sure})
		}
	}
	return out
}

// wrapped is a number modulo 2 to the 64, as an int64.
func wrapped(n *big.Int) int64 {
	return int64(new(big.Int).And(n, new(big.Int).SetUint64(math.MaxUint64)).Uint64())
}

// modelSum is the sum of all changes about a counter, of the entries that are asked for, and whether there is any.
func modelSum(entries []api.Entry, counter int, asked func(api.Entry) bool) (int64, bool) {
	total, met := new(big.Int), false
	for _, e := range entries {
		for _, x := range e.Made {
			if x.Counter == counter && asked(e) {
				total.Add(total, big.NewInt(x.Change))
				met = true
			}
		}
	}
	return wrapped(total), met
}

func modelSums(c api.Config, entries []api.Entry) []int64 {
	var out []int64
	for counter := range c.Counters {
		n, _ := modelSum(entries, counter, func(api.Entry) bool { return true })
		out = append(out, n)
	}
	return out
}

func modelMoved(entries []api.Entry, till int) []api.Line {
	counters := append(slices.Clone(odd), 0, 1, 2, 3, 4)
	slices.Sort(counters)
	var out []api.Line
	for _, counter := range counters {
		if n, met := modelSum(entries, counter, func(e api.Entry) bool { return isOf(e, till) }); met {
			out = append(out, line(counter, n))
		}
	}
	return out
}

func modelCount(entries []api.Entry, till int) [6]int {
	var out [6]int
	for outcome := range out {
		for _, e := range entries {
			if isOf(e, till) && e.Outcome == outcome {
				out[outcome]++
			}
		}
	}
	return out
}

func TestP19_1To4Drawn(t *testing.T) {
	r := chance{rand.New(rand.NewSource(1))}
	items, lines := 0, 0
	for range 5000 {
		entries, pending := r.raw()
		till, c := r.odd(), shelves(r.Intn(8))
		want, wantLines := modelOf(entries, pending, till), modelMoved(entries, till)
		listed(t, entries, pending, till, want...)
		summed(t, c, entries, modelSums(c, entries)...)
		counted(t, entries, till, modelCount(entries, till))
		moved(t, entries, till, wantLines...)
		begins(t, entries, pending, till, r.Intn(len(entries)+1))
		if t.Failed() {
			t.FailNow()
		}
		items += len(want)
		lines += len(wantLines)
	}
	if items < 5000 || lines < 5000 {
		t.Errorf("drawn: %d items and %d lines only", items, lines)
	}
}

// begins looks whether the items of so many of the entries are those that all of them begin with (P19.7).
func begins(t *testing.T, entries []api.Entry, pending []api.Act, till, n int) {
	t.Helper()
	first := report.Of(entries[:n], nil, till)
	for _, behind := range [][]api.Act{nil, pending} {
		all := report.Of(entries, behind, till)
		if len(all) < len(first) {
			t.Errorf("of %d entries of %d there are %d items, and then %d", n, len(entries), len(first), len(all))
			return
		}
		same(t, "what all items begin with", all[:len(first)], first)
	}
}

func (r chance) config() api.Config {
	c := tea()
	c.Tills, c.Counters, c.Prices = 1+r.Intn(4), nil, nil
	for i := range 1 + r.Intn(4) {
		bound := []int64{6, 30, api.MaxBound}[r.Intn(3)]
		x := api.Counter{Name: string(rune('a' + i)), Lo: -r.Int63n(bound + 1), Hi: r.Int63n(bound + 1)}
		x.Start = x.Lo + r.Int63n(x.Hi-x.Lo+1)
		c.Counters = append(c.Counters, x)
	}
	for i := range r.Intn(3) {
		c.Prices = append(c.Prices, api.Price{Name: string(rune('a' + i)), Start: r.Int63n(1000)})
	}
	return c
}

func (r chance) lines(c api.Config) []api.Line {
	var out []api.Line
	for range 1 + r.Intn(3) {
		n := int64(1 + r.Intn(4))
		if r.Intn(6) == 0 {
			n = api.MaxAmount
		}
		out = append(out, line(r.Intn(len(c.Counters)), n*int64(1-2*r.Intn(2))))
	}
	return out
}

// act draws one that a till may issue.
func (r chance) act(c api.Config, till int) api.Act {
	a := api.Act{Kind: api.ActAsk, Right: api.Right{Counter: r.Intn(len(c.Counters)), Way: r.Intn(2), N: int64(1 + r.Intn(9))}}
	switch k := r.Intn(10); {
	case k < 3:
		return a
	case k < 4:
		a.Kind = api.ActGive
		return a
	case k < 5 && c.Tills > 1:
		a.Kind, a.To = api.ActPass, (till+1+r.Intn(c.Tills-1))%c.Tills
		return a
	}
	a = api.Act{Kind: api.ActWrite, Lines: r.lines(c)}
	if r.Intn(2) == 0 {
		return a
	}
	if a.Merge.Kind = r.Intn(4); a.Merge.Kind == api.MergeOther {
		a.Merge.Other = r.lines(c)
	}
	for _, price := range r.Perm(len(c.Prices))[:r.Intn(len(c.Prices)+1)] {
		a.Sets = append(a.Sets, api.Set{Price: price, Version: -1, N: r.Int63n(1000)})
	}
	if r.Intn(2) == 0 {
		a.Guards = []api.Guard{{Kind: api.GuardLeast + r.Intn(3), What: r.Intn(len(c.Counters)), N: int64(r.Intn(9))}}
	}
	return a
}

// floor is some tills, each with a draft, and one row of entries that they take at their own pace.
type floor struct {
	chance
	*testing.T
	c       api.Config
	entries []api.Entry
	state   api.State
	drafts  []*draft.Draft
	taken   []int
	acts    [][]api.Act // of each till all that it has issued, yields too
	met     map[string]int
}

func newFloor(t *testing.T, r chance, met map[string]int) *floor {
	c := r.config()
	f := &floor{chance: r, T: t, c: c, state: book.First(c), taken: make([]int, c.Tills), acts: make([][]api.Act, c.Tills), met: met}
	for till := range c.Tills {
		f.drafts = append(f.drafts, draft.New(c, till))
	}
	return f
}

func (f *floor) issue(till int) {
	d := f.drafts[till]
	if _, _, errno := d.Issue(f.act(f.c, till), f.Intn(3), f.Intn(4) > 0); errno != api.OK {
		return
	}
	pending := d.Pending()
	f.acts[till] = append(f.acts[till], pending[len(pending)-1])
}

// commit folds the next act of a till, or a fence of it.
func (f *floor) commit(till int) {
	e, ok := api.Entry{}, false
	if last := int(f.state.Last[till]); f.Intn(12) == 0 {
		e, ok = book.Fence(f.c, f.state, till)
	} else if last < len(f.acts[till]) {
		e, ok = book.Next(f.c, f.state, f.acts[till][last]), true
	}
	if !ok {
		return
	}
	s, errno := book.Fold(f.c, f.state, e)
	if errno != api.OK {
		f.Fatalf("Fold(%+v): %d", e, errno)
	}
	f.state, f.entries = s, append(f.entries, e)
	f.met[fmt.Sprintf("kind %d, outcome %d, sure %v", e.Act.Kind, e.Outcome, e.Act.Sure)]++
}

func (f *floor) take(till int) {
	if f.taken[till] == len(f.entries) {
		return
	}
	back, due, errno := f.drafts[till].Take(f.entries[f.taken[till]])
	if errno != api.OK {
		f.Fatalf("Take(%+v): %d", f.entries[f.taken[till]], errno)
	}
	f.taken[till]++
	if due {
		f.acts[till] = append(f.acts[till], back)
	}
}

// once looks whether each write that a till has issued is listed once, in order, with what became of it as far as the till knows (P19.5).
func (f *floor) once(till int) {
	f.Helper()
	known := f.entries[:f.taken[till]]
	var want []api.Item
	for _, a := range f.acts[till] {
		if a.Kind != api.ActWrite {
			continue
		}
		x := api.Item{Number: a.Number, Sure: a.Sure}
		own := func(e api.Entry) bool { return isOf(e, till) && e.Act.Number == a.Number }
		if i := slices.IndexFunc(known, own); i >= 0 {
			x.Outcome, x.Made, x.Sets = known[i].Outcome, known[i].Made, known[i].Sets
		} else {
			f.met["pending"]++
		}
		want = append(want, x)
	}
	got := report.Of(known, f.drafts[till].Pending(), till)
	same(f.T, fmt.Sprint("Of till ", till), got, want)
	for i := 1; i < len(got); i++ {
		if got[i-1].Number >= got[i].Number {
			f.Errorf("the numbers do not rise: %+v", got)
		}
	}
}

// together looks whether sums are what the counters have moved by, and what all tills have moved (P19.6).
func (f *floor) together() {
	f.Helper()
	sums := report.Sums(f.c, f.entries)
	all := make([]int64, len(sums))
	acts := 0
	for till := range f.c.Tills {
		for _, x := range report.Moved(f.entries, till) {
			all[x.Counter] += x.Change
		}
		for _, n := range report.Count(f.entries, till) {
			acts += n
		}
	}
	same(f.T, "what all tills have moved", all, sums)
	fences := uint64(0)
	for _, n := range f.state.Gen {
		fences += n
	}
	same(f.T, "acts and fences", uint64(acts)+fences, f.state.Position)
	for i, x := range f.c.Counters {
		same(f.T, "a value", f.state.Pools[i].Value, x.Start+sums[i])
	}
}

func TestP19_5To7Drawn(t *testing.T) {
	met := map[string]int{}
	for seed := range int64(200) {
		f := newFloor(t, chance{rand.New(rand.NewSource(seed))}, met)
		for range 150 {
			till := f.Intn(f.c.Tills)
			switch k := f.Intn(9); {
			case k < 2:
				f.issue(till)
			case k < 4:
				f.commit(till)
			default:
				f.take(till)
			}
			f.once(till)
			f.together()
			begins(t, f.entries, f.drafts[till].Pending(), till, f.Intn(len(f.entries)+1))
			if t.Failed() {
				t.FailNow()
			}
		}
	}
	for _, what := range []string{
		"kind 0, outcome 0, sure false", "kind 1, outcome 1, sure false", "kind 1, outcome 1, sure true",
		"kind 1, outcome 2, sure false", "kind 1, outcome 3, sure false", "kind 2, outcome 4, sure false",
		"kind 3, outcome 5, sure false", "kind 4, outcome 5, sure false", "kind 5, outcome 5, sure false", "pending",
	} {
		if met[what] < 20 {
			t.Errorf("%s was met %d times only", what, met[what])
		}
	}
}
