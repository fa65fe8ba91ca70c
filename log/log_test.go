package log_test

import (
	"fmt"
	"iter"
	"math"
	"slices"
	"testing"

	"till/act"
	"till/api"
	"till/book"
	"till/log"
)

// tea is the configuration of the chapter's examples.
func tea() api.Config {
	return api.Config{
		Tills: 2, Counters: []api.Counter{{Name: "tea", Hi: 10, Start: 4}}, Prices: []api.Price{{Name: "tea", Start: 250}},
		Lease: 20, Watch: 16, Beat: 8, Window: 4, Cap: 8, Flight: 100,
	}
}

// widest is a configuration at the limits.
func widest() api.Config {
	c := tea()
	c.Tills, c.Counters, c.Prices = api.MaxTills, nil, nil
	for i := range api.MaxCounters {
		name := fmt.Sprint("n", i)
		c.Counters = append(c.Counters, api.Counter{Name: name, Lo: -api.MaxBound, Hi: api.MaxBound, Start: api.MaxBound})
		c.Prices = append(c.Prices, api.Price{Name: name, Start: api.MaxAmount})
	}
	return c
}

func head(till int, number uint64) api.Head { return api.Head{Till: till, Number: number} }

func write(till int, number uint64, change int64) api.Act {
	return api.Act{Head: head(till, number), Kind: api.ActWrite, Lines: []api.Line{{Change: change}}}
}

func sure(till int, number uint64, change int64) api.Act {
	a := write(till, number, change)
	a.Sure = true
	return a
}

func right(kind, till int, number uint64, n int64) api.Act {
	return api.Act{Head: head(till, number), Kind: kind, Right: api.Right{N: n}}
}

// text tells a value without what is not seen of it: a nil list reads as an empty one.
func text(x any) string { return fmt.Sprintf("%+v", x) }

func same(t *testing.T, what string, got, want any) {
	t.Helper()
	if text(got) != text(want) {
		t.Errorf("%s:\n got %s\nwant %s", what, text(got), text(want))
	}
}

func mustAdd(t *testing.T, l *log.Log, e api.Entry) {
	t.Helper()
	if errno := l.Add(e); errno != api.OK {
		t.Fatalf("Add(%+v): %d", e, errno)
	}
}

// two are the first two entries of the examples, six go on behind them: a write that is cut, a fence, a yield, and one that is rejected.
func two() []api.Entry {
	return []api.Entry{
		{Position: 1, Act: right(api.ActAsk, 0, 1, 3), Outcome: api.Granted, N: 3},
		{Position: 2, Act: sure(0, 2, -2), Outcome: api.Applied, Made: []api.Line{{Change: -2}}},
	}
}

func six() []api.Entry {
	clamp := write(1, 1, -2)
	clamp.Merge.Kind = api.MergeClamp
	clamp.Sets = []api.Set{{Version: 0, N: 275}}
	clamp.Guards = []api.Guard{{Kind: api.GuardLeast, N: 1}}
	all := api.Act{Head: head(0, 3), Kind: api.ActYield, Gen: 1, Rights: []api.Right{{N: 1}}}
	return append(two(),
		api.Entry{Position: 3, Act: clamp, Outcome: api.Merged, Made: []api.Line{{Change: -1}}, Sets: []api.Set{{Version: 1, N: 275}}},
		api.Entry{Position: 4, Gen: 1},
		api.Entry{Position: 5, Act: all, Outcome: api.Done},
		api.Entry{Position: 6, Act: write(1, 2, 10), Outcome: api.Rejected},
	)
}

// behindSix is the state that six make.
func behindSix() api.State {
	return api.State{
		Position: 6, Pools: []api.Pool{{Value: 1, Free: [2]int64{1, 9}, Held: make([][2]int64, 2)}}, Prices: []api.Priced{{Price: 275, Version: 1}},
		Last: []uint64{3, 2}, Gen: []uint64{1, 0}, Owed: []bool{false, false},
	}
}

func logOf(t *testing.T, c api.Config, entries []api.Entry) *log.Log {
	t.Helper()
	l := log.New(c)
	for _, e := range entries {
		mustAdd(t, l, e)
	}
	return l
}

// rejected are as many entries as told that change nothing: a till gives what it does not hold.
func rejected(n int) []api.Entry {
	var out []api.Entry
	for i := range uint64(n) {
		out = append(out, api.Entry{Position: i + 1, Act: right(api.ActGive, 0, i+1, 1), Outcome: api.Rejected})
	}
	return out
}

func collected(seq iter.Seq2[uint64, api.Entry]) ([]uint64, []api.Entry) {
	var positions []uint64
	var entries []api.Entry
	for position, e := range seq {
		positions, entries = append(positions, position), append(entries, e)
	}
	return positions, entries
}

// looksLike holds all that a log tells against its entries and its state.
func looksLike(t *testing.T, l *log.Log, entries []api.Entry, s api.State) {
	t.Helper()
	same(t, "State", l.State(), s)
	same(t, "From", l.From(0, math.MaxInt), entries)
	positions, all := collected(l.All())
	same(t, "All", all, entries)
	if l.Len() != len(entries) || len(positions) != len(entries) {
		t.Errorf("Len: %d, positions %v, want %d", l.Len(), positions, len(entries))
	}
	for i, e := range entries {
		got, ok := l.At(uint64(i) + 1)
		if !ok || text(got) != text(e) || positions[i] != uint64(i)+1 {
			t.Errorf("At(%d): %+v, %v, want %+v", i+1, got, ok, e)
		}
	}
}

func TestExamples(t *testing.T) {
	l := logOf(t, tea(), two())
	stands := api.State{
		Position: 2, Pools: []api.Pool{{Value: 2, Free: [2]int64{1, 8}, Held: [][2]int64{{1, 0}, {0, 0}}}}, Prices: []api.Priced{{Price: 250}},
		Last: []uint64{2, 0}, Gen: make([]uint64, 2), Owed: make([]bool, 2),
	}
	looksLike(t, l, two(), stands)
	same(t, "From(1, 9)", l.From(1, 9), two()[1:])
	same(t, "From(0, 1)", l.From(0, 1), two()[:1])
	if len(l.From(2, 9)) > 0 || len(l.From(0, 0)) > 0 {
		t.Errorf("From(2, 9), From(0, 0): %+v, %+v", l.From(2, 9), l.From(0, 0))
	}
	nine := api.Entry{Position: 3, Act: right(api.ActAsk, 0, 3, 9), Outcome: api.Granted, N: 9}
	if again, much := l.Add(two()[1]), l.Add(nine); again != api.ErrBookOrder || much != api.ErrBookOutcome {
		t.Errorf("Add of entry 2 again and of too much: %d, %d", again, much)
	}
	verified(t, tea(), two(), stands, 2, api.OK)
	verified(t, tea(), append(two(), two()[1]), stands, 2, api.ErrBookOrder)
	verified(t, tea(), nil, book.First(tea()), 0, api.OK)
}

func TestP11_1New(t *testing.T) {
	for _, c := range []api.Config{tea(), widest()} {
		if act.Fits(c) != api.OK {
			t.Fatalf("%+v does not fit", c)
		}
		looksLike(t, log.New(c), nil, book.First(c))
	}
}

func TestP11_2Add(t *testing.T) {
	l := log.New(tea())
	s := book.First(tea())
	for i, e := range six() {
		mustAdd(t, l, e)
		s, _ = book.Fold(tea(), s, e)
		looksLike(t, l, six()[:i+1], s)
	}
	looksLike(t, l, six(), behindSix())
}

// A refused entry is told by book.Fold's error, and nothing has changed.
func TestP11_2Refused(t *testing.T) {
	l := logOf(t, tea(), six())
	ask := func(number uint64, n, granted int64) api.Entry {
		return api.Entry{Position: 7, Act: right(api.ActAsk, 0, number, n), Outcome: api.Granted, N: granted}
	}
	far, none := ask(4, 1, 1), ask(4, 1, 1)
	far.Position, none.Position = 8, 0
	for _, x := range []struct {
		e    api.Entry
		want api.Errno
	}{
		{api.Entry{}, api.ErrBookOrder},
		{six()[5], api.ErrBookOrder},
		{far, api.ErrBookOrder},
		{none, api.ErrBookOrder},
		{ask(3, 1, 1), api.ErrBookAct},
		{ask(5, 1, 1), api.ErrBookAct},
		{ask(4, 0, 0), api.ErrBookAct},
		{ask(4, 1, 0), api.ErrBookOutcome},
		{ask(4, 2, 2), api.ErrBookOutcome},
		{api.Entry{Position: 7, Gen: 1}, api.ErrBookFence},
		{api.Entry{Position: 7, Fence: 2, Gen: 1}, api.ErrBookFence},
	} {
		if errno := l.Add(x.e); errno != x.want {
			t.Errorf("Add(%+v): %d, want %d", x.e, errno, x.want)
		}
		looksLike(t, l, six(), behindSix())
	}
	mustAdd(t, l, ask(4, 2, 1))
}

func TestP11_2Full(t *testing.T) {
	row := rejected(api.MaxLog + 1)
	l := logOf(t, tea(), row[:api.MaxLog-1])
	if errno := l.Add(row[0]); errno != api.ErrBookOrder {
		t.Errorf("Add of an old one, ahead of the last: %d", errno)
	}
	mustAdd(t, l, row[api.MaxLog-1])
	want := book.First(tea())
	want.Position, want.Last[0] = api.MaxLog, api.MaxLog
	for _, e := range []api.Entry{row[api.MaxLog], row[0], {}, {Position: api.MaxLog + 1, Gen: 1}, {Position: api.MaxLog + 1, Fence: 5, Gen: 1}} {
		if errno := l.Add(e); errno != api.ErrLogFull {
			t.Errorf("Add(%+v) to a full log: %d", e, errno)
		}
	}
	looksLike(t, l, row[:api.MaxLog], want)
}

func TestP11_3At(t *testing.T) {
	for n := range len(six()) + 1 {
		l := logOf(t, tea(), six()[:n])
		for _, position := range []uint64{0, uint64(n) + 1, uint64(n) + 2, api.MaxLog, 1 << 63, math.MaxUint64} {
			if e, ok := l.At(position); ok || text(e) != text(api.Entry{}) {
				t.Errorf("At(%d) of %d: %+v, %v", position, n, e, ok)
			}
		}
	}
}

func TestP11_3From(t *testing.T) {
	l := logOf(t, tea(), six())
	for position := range uint64(9) {
		for most := -2; most < 9; most++ {
			var want []api.Entry
			for _, e := range six() {
				if e.Position > position && len(want) < most {
					want = append(want, e)
				}
			}
			same(t, fmt.Sprintf("From(%d, %d)", position, most), l.From(position, most), want)
		}
	}
	for _, most := range []int{math.MaxInt, math.MaxInt - 1, math.MaxInt32} {
		same(t, "From of all", l.From(0, most), six())
		same(t, "From of the last", l.From(5, most), six()[5:])
		for _, position := range []uint64{6, 7, api.MaxLog, 1 << 63, math.MaxUint64 - 5, math.MaxUint64} {
			if got := l.From(position, most); len(got) > 0 {
				t.Errorf("From(%d, %d): %+v", position, most, got)
			}
		}
	}
	if got := l.From(0, math.MinInt); len(got) > 0 {
		t.Errorf("From(0, MinInt): %+v", got)
	}
}

// An Add within a range is not seen in it, whether the row had room for it or not.
func TestP11_4AddMeanwhile(t *testing.T) {
	const more = 40
	row := rejected(4 + more)
	for begin := range 5 {
		l := logOf(t, tea(), row[:begin])
		met := 0
		for position, e := range l.All() {
			met++
			if position != uint64(met) || text(e) != text(row[met-1]) {
				t.Errorf("%d: %d, %+v", met, position, e)
			}
			for range more / 4 {
				mustAdd(t, l, row[l.Len()])
			}
		}
		if met != begin || l.Len() != begin+begin*(more/4) {
			t.Errorf("%d of %d were told, there are %d", met, begin, l.Len())
		}
	}
}

func TestP11_4Again(t *testing.T) {
	l := log.New(tea())
	all := l.All()
	for n := range len(six()) + 1 {
		_, entries := collected(all)
		same(t, "ranged over again", entries, six()[:n])
		for leave := range n {
			var met []api.Entry
			for position, e := range all {
				if met = append(met, e); position == uint64(leave)+1 {
					break
				}
			}
			same(t, "left early", met, six()[:leave+1])
		}
		if n < len(six()) {
			mustAdd(t, l, six()[n])
		}
	}
}

// Two ranges at once do not disturb each other, nor do they see what comes between.
func TestP11_4Nested(t *testing.T) {
	l := logOf(t, tea(), six()[:4])
	next, stop := iter.Pull2(l.All())
	defer stop()
	position, e, ok := next()
	mustAdd(t, l, six()[4])
	var sizes []int
	for range l.All() {
		_, inner := collected(l.All())
		sizes = append(sizes, len(inner))
		if l.Len() == 5 {
			mustAdd(t, l, six()[5])
		}
	}
	same(t, "the inner ranges", sizes, []int{5, 6, 6, 6, 6})
	met := []api.Entry{e}
	for position == 1 && ok {
		if _, e, ok = next(); ok {
			met = append(met, e)
		}
	}
	same(t, "the range from the beginning on", met, six()[:4])
}

// verified holds what Verify answers against what is wanted.
func verified(t *testing.T, c api.Config, entries []api.Entry, s api.State, n int, errno api.Errno) {
	t.Helper()
	gotState, got, gotErrno := log.Verify(c, entries)
	if got != n || gotErrno != errno {
		t.Errorf("Verify of %d: %d, %d, want %d, %d", len(entries), got, gotErrno, n, errno)
	}
	same(t, "Verify's state", gotState, s)
}

// added is what Verify must tell: entries are added one behind the other.
func added(c api.Config, entries []api.Entry) (*log.Log, api.Errno) {
	l := log.New(c)
	for _, e := range entries {
		if errno := l.Add(e); errno != api.OK {
			return l, errno
		}
	}
	return l, api.OK
}

func verifiedAsAdded(t *testing.T, c api.Config, entries []api.Entry) (int, api.Errno) {
	t.Helper()
	l, errno := added(c, entries)
	verified(t, c, entries, l.State(), l.Len(), errno)
	return l.Len(), errno
}

// spoils make of a good entry one that is refused: of the first ones the form may not be, of the others it may.
func spoils() []func(e *api.Entry) {
	return []func(e *api.Entry){
		func(e *api.Entry) { e.Act.Right.N = 0 },
		func(e *api.Entry) { e.Act.Till = 2 },
		func(e *api.Entry) { e.Act = api.Act{} },
		func(e *api.Entry) { e.Outcome = api.Granted },
		func(e *api.Entry) { e.N = 1 },
		func(e *api.Entry) { e.Position = 0 },
		func(e *api.Entry) { *e = api.Entry{} },
		func(e *api.Entry) { *e = api.Entry{Position: e.Position, Fence: -1, Gen: 1} },
		func(e *api.Entry) { e.Outcome = api.Done },
		func(e *api.Entry) { e.Act.Number++ },
		func(e *api.Entry) { e.Position = e.Position%api.MaxLog + 1 },
		func(e *api.Entry) { *e = api.Entry{Position: e.Position, Gen: 2} },
	}
}

const badForms = 8

func TestP11_5Spoiled(t *testing.T) {
	row := rejected(300)
	met := map[api.Errno]int{}
	for i, spoil := range spoils() {
		for _, place := range []int{0, 1, 62, 63, 64, 65, 127, 128, 129, 191, 192, 298, 299} {
			entries := slices.Clone(row)
			spoil(&entries[place])
			if form := act.CheckEntry(tea(), entries[place]); (form != api.OK) != (i < badForms) {
				t.Fatalf("the form of %+v: %d", entries[place], form)
			}
			n, errno := verifiedAsAdded(t, tea(), entries)
			if n != place || errno == api.OK {
				t.Errorf("spoil %d at %d: %d, %d", i, place, n, errno)
			}
			met[errno]++
		}
	}
	for _, errno := range []api.Errno{api.ErrBookOrder, api.ErrBookAct, api.ErrBookOutcome, api.ErrBookFence} {
		if met[errno] == 0 {
			t.Errorf("error %d was not met", errno)
		}
	}
}

// Of several the first one counts, whether its form may be or not, and in whichever part the others are.
func TestP11_5SeveralSpoiled(t *testing.T) {
	row := rejected(400)
	formed := func(entries []api.Entry, place int) { entries[place].Outcome = api.Done }
	deformed := func(entries []api.Entry, place int) { entries[place].Act.Right.N = 0 }
	for _, places := range [][]int{{0, 399}, {63, 64}, {64, 65}, {10, 200, 300}, {70, 71, 130}, {320, 321}, {5, 6, 69, 133, 197, 261, 325, 389}} {
		for pattern := range 1 << len(places) {
			entries, want := slices.Clone(row), api.ErrBookOutcome
			for i, place := range places {
				if pattern>>i&1 > 0 {
					deformed(entries, place)
				} else {
					formed(entries, place)
				}
			}
			if pattern&1 > 0 {
				want = api.ErrBookAct
			}
			s := book.First(tea())
			s.Position, s.Last[0] = uint64(places[0]), uint64(places[0])
			verified(t, tea(), entries, s, places[0], want)
		}
	}
}

func TestP11_5Long(t *testing.T) {
	row := rejected(3 * api.MaxLog)
	for _, n := range []int{0, 1, 2, 63, 64, 65, 127, 128, 129, 255, 256, 257, 2047, 2048, 2049, 2050, 2112, 2113, 3 * api.MaxLog} {
		s, want := book.First(tea()), api.OK
		s.Position, s.Last[0] = uint64(min(n, api.MaxLog)), uint64(min(n, api.MaxLog))
		if n > api.MaxLog {
			want = api.ErrLogFull
		}
		verified(t, tea(), row[:n], s, min(n, api.MaxLog), want)
	}
	full := book.First(tea())
	full.Position, full.Last[0] = api.MaxLog, api.MaxLog
	for i, spoil := range spoils() { // behind a full log it is not asked what an entry is
		entries := slices.Clone(row[:api.MaxLog+20])
		spoil(&entries[api.MaxLog])
		spoil(&entries[api.MaxLog+9])
		verified(t, tea(), entries, full, api.MaxLog, api.ErrLogFull)
		spoil(&entries[api.MaxLog-1])
		if n, errno := verifiedAsAdded(t, tea(), entries); n != api.MaxLog-1 || errno == api.ErrLogFull {
			t.Errorf("spoil %d at the last place: %d, %d", i, n, errno)
		}
	}
}
