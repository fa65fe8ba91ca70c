package report_test

import (
	"fmt"
	"math"
	"testing"

	"till/api"
	"till/book"
	"till/report"
)

// tea is the configuration of chapter 10's examples.
func tea() api.Config {
	return api.Config{
		Tills: 2, Counters: []api.Counter{{Name: "tea", Hi: 10, Start: 4}}, Prices: []api.Price{{Name: "tea", Start: 250}},
		Lease: 20, Watch: 16, Beat: 8, Window: 4, Cap: 8, Flight: 100,
	}
}

// shelves is a configuration with so many counters.
func shelves(n int) api.Config {
	c := tea()
	c.Counters = nil
	for i := range n {
		c.Counters = append(c.Counters, api.Counter{Name: fmt.Sprint("n", i), Lo: -api.MaxBound, Hi: api.MaxBound})
	}
	return c
}

func line(counter int, change int64) api.Line { return api.Line{Counter: counter, Change: change} }

func down(counter int, n int64) api.Right { return api.Right{Counter: counter, Way: api.Down, N: n} }

// numbered is an act of a kind, and nothing else of it.
func numbered(kind, till int, number uint64) api.Act {
	return api.Act{Head: api.Head{Till: till, Number: number}, Kind: kind}
}

func write(till int, number uint64, lines ...api.Line) api.Act {
	a := numbered(api.ActWrite, till, number)
	a.Lines = lines
	return a
}

func sure(a api.Act) api.Act {
	a.Sure = true
	return a
}

// entry is one of an act; what was made of it need not be what the rules say.
func entry(a api.Act, outcome int, made ...api.Line) api.Entry {
	return api.Entry{Act: a, Outcome: outcome, Made: made}
}

// text tells a value without what is not seen of it: a nil list reads as an empty one.
func text(x any) string { return fmt.Sprintf("%+v", x) }

func same(t *testing.T, what string, got, want any) {
	t.Helper()
	if text(got) != text(want) {
		t.Errorf("%s:\n got %s\nwant %s", what, text(got), text(want))
	}
}

func listed(t *testing.T, entries []api.Entry, pending []api.Act, till int, want ...api.Item) {
	t.Helper()
	same(t, fmt.Sprint("Of till ", till), report.Of(entries, pending, till), want)
}

func summed(t *testing.T, c api.Config, entries []api.Entry, want ...int64) {
	t.Helper()
	same(t, "Sums", report.Sums(c, entries), want)
}

func counted(t *testing.T, entries []api.Entry, till int, want [6]int) {
	t.Helper()
	same(t, fmt.Sprint("Count of till ", till), report.Count(entries, till), want)
}

func moved(t *testing.T, entries []api.Entry, till int, want ...api.Line) {
	t.Helper()
	same(t, fmt.Sprint("Moved of till ", till), report.Moved(entries, till), want)
}

// told are the entries of chapter 10's examples, as book makes them.
func told(t *testing.T) []api.Entry {
	t.Helper()
	ask, clamped, back := numbered(api.ActAsk, 0, 1), write(1, 1, line(0, -2)), numbered(api.ActYield, 0, 3)
	ask.Right = down(0, 3)
	clamped.Merge.Kind = api.MergeClamp
	back.Gen, back.Rights = 1, []api.Right{down(0, 1)}
	c, s := tea(), book.First(tea())
	var out []api.Entry
	for _, a := range []api.Act{ask, sure(write(0, 2, line(0, -2))), clamped, {}, back} {
		e := book.Next(c, s, a)
		if a.Kind == api.ActNone {
			e, _ = book.Fence(c, s, 0)
		}
		out = append(out, e)
		var errno api.Errno
		if s, errno = book.Fold(c, s, e); errno != api.OK {
			t.Fatalf("%+v: %d", e, errno)
		}
	}
	return out
}

func TestExamples(t *testing.T) {
	entries := told(t)
	listed(t, entries, []api.Act{write(0, 4, line(0, 1))}, 0,
		api.Item{Number: 2, Sure: true, Outcome: api.Applied, Made: []api.Line{line(0, -2)}}, api.Item{Number: 4})
	listed(t, entries, nil, 1, api.Item{Number: 1, Outcome: api.Merged, Made: []api.Line{line(0, -1)}})
	summed(t, tea(), entries, -3)
	counted(t, entries, 0, [6]int{api.Applied: 1, api.Granted: 1, api.Done: 1})
	moved(t, entries, 0, line(0, -2))
	moved(t, entries, 1, line(0, -1))
	moved(t, entries, 2)
}

func TestNothing(t *testing.T) {
	for _, till := range []int{0, 1, -1, math.MaxInt, math.MinInt} {
		listed(t, nil, nil, till)
		listed(t, []api.Entry{}, []api.Act{}, till)
		counted(t, nil, till, [6]int{})
		moved(t, nil, till)
		moved(t, []api.Entry{{}, entry(write(3, 1), api.Applied)}, till)
	}
	summed(t, api.Config{}, nil)
	summed(t, api.Config{}, []api.Entry{entry(write(0, 1), api.Applied, line(0, 1))})
	summed(t, shelves(3), nil, 0, 0, 0)
}

// Of a till's own acts the writes alone, whatever became of them; those that are committed first, each row in its order.
func TestP19_1Of(t *testing.T) {
	sets := []api.Set{{Price: 1, Version: 3, N: 275}, {Price: 0, Version: 1, N: 9}}
	setting := entry(write(1, 7), api.Merged, line(2, -4), line(0, 5), line(2, -1))
	setting.Sets, setting.Act.Sets, setting.Act.Merge = sets, []api.Set{{Price: 5}}, api.Merge{Kind: api.MergeForce}
	entries := []api.Entry{
		entry(write(0, 1, line(0, 1)), api.Applied, line(0, 1)),
		entry(sure(write(1, 9, line(1, -3))), api.Applied, line(1, -3)),
		entry(numbered(api.ActAsk, 1, 2), api.Granted), entry(numbered(api.ActGive, 1, 3), api.Done), entry(numbered(api.ActPass, 1, 4), api.Rejected),
		setting,
		entry(numbered(api.ActYield, 1, 5), api.Done), {Fence: 1, Gen: 1},
		entry(write(2, 6), api.Applied),
		entry(write(1, 2, line(0, -9)), api.Rejected),
		entry(write(1, 2, line(0, -9)), api.Rejected),
	}
	pending := []api.Act{
		numbered(api.ActAsk, 1, 10), sure(write(1, 12, line(0, -1))), write(0, 2), write(1, 11, line(0, -2)), numbered(api.ActYield, 1, 13), write(1, 12),
	}
	listed(t, entries, pending, 1,
		api.Item{Number: 9, Sure: true, Outcome: api.Applied, Made: []api.Line{line(1, -3)}},
		api.Item{Number: 7, Outcome: api.Merged, Made: []api.Line{line(2, -4), line(0, 5), line(2, -1)}, Sets: sets},
		api.Item{Number: 2, Outcome: api.Rejected}, api.Item{Number: 2, Outcome: api.Rejected},
		api.Item{Number: 12, Sure: true}, api.Item{Number: 11}, api.Item{Number: 12})
	listed(t, entries, pending, 0, api.Item{Number: 1, Outcome: api.Applied, Made: []api.Line{line(0, 1)}}, api.Item{Number: 2})
	listed(t, entries, nil, 2, api.Item{Number: 6, Outcome: api.Applied})
	listed(t, nil, pending, 2)
	listed(t, entries, pending, 3)
}

// What could never be committed is listed as it stands.
func TestP19_1Whatever(t *testing.T) {
	fence := api.Entry{Act: numbered(api.ActNone, 0, 4), Outcome: api.Applied, Made: []api.Line{line(0, 1)}, Fence: 0, Gen: 1}
	listed(t, []api.Entry{fence}, []api.Act{numbered(api.ActNone, 0, 4)}, 0)
	for _, odd := range []int{-1, 6, math.MaxInt, math.MinInt} {
		listed(t, []api.Entry{entry(numbered(odd, 0, 1), api.Applied)}, []api.Act{numbered(odd, 0, 1)}, 0)
		e := entry(sure(write(odd, math.MaxUint64)), odd, line(odd, math.MinInt64), line(odd, 0))
		e.Sets = []api.Set{{Price: odd, Version: odd, N: int64(odd)}}
		listed(t, []api.Entry{fence, e}, []api.Act{write(odd, 0)}, odd,
			api.Item{Number: math.MaxUint64, Sure: true, Outcome: odd, Made: e.Made, Sets: e.Sets}, api.Item{})
		listed(t, []api.Entry{e}, []api.Act{write(odd, 0)}, 0)
	}
	// A write that was told as asked for, and one whose outcome reads as pending.
	listed(t, []api.Entry{entry(write(0, 3), api.Granted), entry(write(0, 4), api.OutcomeNone, line(0, 1))}, nil, 0,
		api.Item{Number: 3, Outcome: api.Granted}, api.Item{Number: 4, Made: []api.Line{line(0, 1)}})
}

// Every Made line counts, whoever's it is and whatever became of the act; lines about no counter of c do not.
func TestP19_2Sums(t *testing.T) {
	entries := []api.Entry{
		entry(write(0, 1, line(0, 100)), api.Applied, line(0, 3), line(2, -5), line(0, 4)),
		entry(write(7, 1), api.Merged, line(1, 2), line(2, 1)),
		entry(numbered(api.ActAsk, 1, 1), api.Rejected, line(0, -1)),
		entry(numbered(9, -4, 1), 77, line(1, -2)),
		{Fence: 1, Gen: 1, Made: []api.Line{line(0, 1000)}},
		entry(write(0, 2), api.Applied, line(3, 50), line(-1, 60), line(math.MaxInt, 70), line(math.MinInt, 80), line(64, 90)),
	}
	summed(t, shelves(3), entries, 1006, 0, -4)
	summed(t, shelves(1), entries, 1006)
	summed(t, shelves(5), entries, 1006, 0, -4, 50, 0)
	summed(t, shelves(0), entries)
	wide := report.Sums(shelves(66), entries)
	same(t, "Sums of 66 counters", []any{len(wide), wide[:4], wide[64], wide[65]}, []any{66, []int64{1006, 0, -4, 50}, 90, 0})
}

// A sum that leaves the 64 bits is told modulo 2 to the 64, and one that comes back is exact.
func TestP19_2And4Modulo(t *testing.T) {
	for _, x := range []struct {
		changes []int64
		want    int64
	}{
		{[]int64{math.MaxInt64, 1}, math.MinInt64},
		{[]int64{math.MinInt64, -1}, math.MaxInt64},
		{[]int64{math.MinInt64, math.MinInt64}, 0},
		{[]int64{math.MaxInt64, math.MaxInt64, math.MaxInt64}, math.MaxInt64 - 2},
		{[]int64{math.MaxInt64, 5, -7}, math.MaxInt64 - 2},
		{[]int64{math.MaxInt64, 5, math.MinInt64, math.MinInt64}, -math.MaxInt64 + 3},
	} {
		var one, many []api.Entry
		one = append(one, entry(write(0, 1), api.Applied))
		for i, n := range x.changes {
			one[0].Made = append(one[0].Made, line(1, n))
			many = append(many, entry(write(0, uint64(i)), api.Applied, line(1, n), line(0, 1)))
		}
		summed(t, shelves(3), one, 0, x.want, 0)
		summed(t, shelves(3), many, int64(len(many)), x.want, 0)
		moved(t, one, 0, line(1, x.want))
		moved(t, many, 0, line(0, int64(len(many))), line(1, x.want))
	}
}

// Every kind of act counts but a fence; of a till that is its own alone; at the six outcomes alone.
func TestP19_3Count(t *testing.T) {
	var entries []api.Entry
	for outcome := range 6 {
		for range outcome + 1 {
			entries = append(entries, entry(numbered(1+outcome%5, 1, 1), outcome))
		}
	}
	want := [6]int{1, 2, 3, 4, 5, 6}
	counted(t, entries, 1, want)
	counted(t, entries, 0, [6]int{})
	for _, odd := range []int{-1, 6, 7, 256, math.MaxInt, math.MinInt} {
		entries = append(entries, entry(write(1, 1), odd), entry(numbered(odd, 1, 1), api.Merged))
		want[api.Merged]++
	}
	counted(t, entries, 1, want)
	for outcome := range 6 {
		entries = append(entries, entry(numbered(api.ActNone, 1, 1), outcome), entry(numbered(api.ActNone, 0, 0), outcome))
	}
	counted(t, entries, 1, want)
	counted(t, entries, 0, [6]int{})
	counted(t, []api.Entry{entry(write(-8, 1), api.Done), entry(write(8, 1), api.Done)}, -8, [6]int{api.Done: 1})
	for _, e := range []api.Entry{{Fence: 1, Gen: 1}, {Fence: 0, Gen: 1}} {
		counted(t, []api.Entry{e}, 0, [6]int{})
		counted(t, []api.Entry{e}, 1, [6]int{})
	}
}

// Any counter of which a line of the till's speaks, in rising order, also where nothing is left of it.
func TestP19_4Moved(t *testing.T) {
	entries := []api.Entry{
		entry(write(0, 1, line(50, 1)), api.Applied, line(9, 3), line(-3, 5), line(9, -3), line(math.MaxInt, 1)),
		entry(write(1, 1), api.Applied, line(4, 4), line(9, 9)),
		entry(numbered(api.ActGive, 0, 2), api.Rejected, line(0, -7), line(1<<40, 6)),
		entry(numbered(-2, 0, 3), 99, line(-3, 1), line(math.MinInt, -1), line(7, 0)),
		{Act: numbered(api.ActNone, 0, 0), Made: []api.Line{line(0, 1000), line(2, 1)}},
	}
	moved(t, entries, 0, line(math.MinInt, -1), line(-3, 6), line(0, -7), line(7, 0), line(9, 0), line(1<<40, 6), line(math.MaxInt, 1))
	moved(t, entries, 1, line(4, 4), line(9, 9))
	moved(t, entries, 2)
	moved(t, entries, -1)
	moved(t, entries[4:], 0)
}

// The order of the counters does not hang on that in which they come, nor on a map's.
func TestP19_4Order(t *testing.T) {
	var e api.Entry
	e.Act.Kind = api.ActWrite
	var want []api.Line
	for i := range 500 {
		e.Made = append(e.Made, line(i*337%500-250, 1))
		want = append(want, line(i-250, 1))
	}
	for range 20 {
		moved(t, []api.Entry{e}, 0, want...)
	}
}
