package log_test

import (
	"fmt"
	"math"
	"math/rand"
	"runtime"
	"slices"
	"sync"
	"testing"
	"testing/synctest"

	"till/api"
	"till/log"
)

// scribble fills a list and its spare room with something else.
func scribble[T any](list []T, with T) {
	list = list[:cap(list)]
	for i := range list {
		list[i] = with
	}
}

func scribbleState(s api.State) {
	for _, pool := range s.Pools {
		scribble(pool.Held, [2]int64{-9, -9})
	}
	scribble(s.Pools, api.Pool{Value: -9})
	scribble(s.Prices, api.Priced{Price: -9})
	scribble(s.Last, 99)
	scribble(s.Gen, 99)
	scribble(s.Owed, true)
}

func scribbleEntry(e api.Entry) {
	for _, list := range [][]api.Line{e.Made, e.Act.Lines, e.Act.Merge.Other} {
		scribble(list, api.Line{Counter: -9})
	}
	scribble(e.Sets, api.Set{Price: -9})
	scribble(e.Act.Sets, api.Set{Price: -9})
	scribble(e.Act.Guards, api.Guard{Kind: -9})
	scribble(e.Act.Rights, api.Right{N: -9})
}

func scribbleEntries(entries []api.Entry) {
	for _, e := range entries {
		scribbleEntry(e)
	}
	scribble(entries, api.Entry{Position: 99})
}

// roomy is a list with spare room that holds something.
func roomy[T any](list []T, fill T) []T {
	out := append(slices.Clone(list), fill, fill, fill)
	return out[:len(list)]
}

func roomyEntry(e api.Entry) api.Entry {
	x, set := api.Line{Counter: 7, Change: 7}, api.Set{Price: 7}
	e.Act.Lines, e.Act.Merge.Other, e.Made = roomy(e.Act.Lines, x), roomy(e.Act.Merge.Other, x), roomy(e.Made, x)
	e.Act.Sets, e.Sets = roomy(e.Act.Sets, set), roomy(e.Sets, set)
	e.Act.Guards, e.Act.Rights = roomy(e.Act.Guards, api.Guard{Kind: 7}), roomy(e.Act.Rights, api.Right{N: 7})
	return e
}

func roomyEntries(entries []api.Entry) []api.Entry {
	var out []api.Entry
	for _, e := range entries {
		out = append(out, roomyEntry(e))
	}
	return roomy(out, api.Entry{Position: 7})
}

// whole is what a list and its spare room hold.
func whole[T any](list []T) string { return fmt.Sprintf("%+v", list[:cap(list)]) }

func wholeEntries(entries []api.Entry) string {
	out := whole(entries)
	for _, e := range entries {
		out += whole(e.Made) + whole(e.Sets) + whole(e.Act.Lines) + whole(e.Act.Guards) + whole(e.Act.Sets) + whole(e.Act.Merge.Other) + whole(e.Act.Rights)
	}
	return out
}

// What is written into an answer is not seen in the log, nor in another answer.
func TestP11_7Answers(t *testing.T) {
	r := chance{rand.New(rand.NewSource(3))}
	for range 40 {
		c := r.config()
		entries, states := r.row(t, c, 1+r.Intn(40))
		l := logOf(t, c, entries)
		for i := range entries {
			e, _ := l.At(uint64(i) + 1)
			other, _ := l.At(uint64(i) + 1)
			scribbleEntry(e)
			same(t, "another answer of At", other, entries[i])
		}
		from, again := l.From(0, 50), l.From(0, 50)
		scribbleEntries(from)
		same(t, "another answer of From", again, entries)
		_, told := collected(l.All())
		for _, e := range l.All() {
			scribbleEntry(e)
		}
		same(t, "what All has told", told, entries)
		s, too := l.State(), l.State()
		scribbleState(s)
		same(t, "another answer of State", too, states[len(entries)])
		s, _, _ = log.Verify(c, entries)
		scribbleState(s)
		verified(t, c, entries, states[len(entries)], len(entries), api.OK)
		looksLike(t, l, entries, states[len(entries)])
	}
}

// The lists of one answer have nothing in common: what is written into one is not seen in another.
func TestP11_7ListsApart(t *testing.T) {
	l := logOf(t, tea(), six())
	from := l.From(0, 9)
	for i := range from {
		kept := fmt.Sprintf("%+v%+v", from[:i], from[i+1:])
		scribbleEntry(from[i])
		if got := fmt.Sprintf("%+v%+v", from[:i], from[i+1:]); got != kept {
			t.Errorf("entry %d shares memory with others: %s", i+1, got)
		}
	}
	e, _ := l.At(3)
	scribble(e.Made, api.Line{Counter: 77})
	scribble(e.Sets, api.Set{Price: 77})
	same(t, "the act behind what was made", e.Act, six()[2].Act)
	c := tea()
	c.Counters = append(c.Counters, api.Counter{Name: "cup", Hi: 3})
	s := log.New(c).State()
	scribble(s.Pools[0].Held, [2]int64{7, 7})
	scribble(s.Last, 77)
	if s.Pools[1].Held[0] != [2]int64{} || s.Gen[0] != 0 {
		t.Errorf("lists of one state share memory: %+v", s)
	}
}

// What was handed in is as it was, spare room too, and what becomes of it is not seen in the log.
func TestP11_7HandedIn(t *testing.T) {
	r := chance{rand.New(rand.NewSource(4))}
	for range 40 {
		c := r.config()
		entries, states := r.row(t, c, 1+r.Intn(100))
		own := c
		own.Counters, own.Prices = roomy(c.Counters, api.Counter{Name: "7"}), roomy(c.Prices, api.Price{Name: "7"})
		given := roomyEntries(entries)
		config, row := whole(own.Counters)+whole(own.Prices), wholeEntries(given)
		l := log.New(own)
		half := len(given) / 2
		for _, e := range given[:half] {
			mustAdd(t, l, e)
		}
		verified(t, own, given, states[len(entries)], len(entries), api.OK)
		bad := slices.Clone(given)
		bad[r.Intn(len(bad))].Outcome = 77
		log.Verify(own, bad)
		if whole(own.Counters)+whole(own.Prices) != config || wholeEntries(given) != row {
			t.Fatalf("what was handed in was changed: %+v, %+v", own, given)
		}
		scribbleEntries(given)
		scribble(own.Counters, api.Counter{Name: "x"})
		scribble(own.Prices, api.Price{Name: "x"})
		looksLike(t, l, entries[:half], states[half])
		for _, e := range entries[half:] {
			mustAdd(t, l, e)
		}
		looksLike(t, l, entries, states[len(entries)])
	}
}

// Two logs have nothing in common, though they were made of the same.
func TestP11_7TwoLogs(t *testing.T) {
	c := tea()
	l, other := log.New(c), log.New(c)
	for i, e := range six() {
		mustAdd(t, l, e)
		if i < 3 {
			mustAdd(t, other, e)
		}
	}
	scribbleState(l.State())
	mustAdd(t, other, api.Entry{Position: 4, Fence: 1, Gen: 1})
	looksLike(t, l, six(), behindSix())
	e, _ := other.At(4)
	same(t, "the other's entry", e, api.Entry{Position: 4, Fence: 1, Gen: 1})
}

// A goroutine that goes on behind an answer would be found at the bubble's end; each kind of answer is asked for.
func TestP11_7GoroutinesEnd(t *testing.T) {
	row := rejected(3000)
	for _, n := range []int{0, 1, 64, 65, 300, 2048, 3000} {
		for _, place := range []int{-1, 0, 1, 63, 64, 200, 299, 2047, 2048} {
			entries := slices.Clone(row[:n])
			if place >= n {
				continue
			}
			if place >= 0 {
				for i := place; i < n; i += 64 { // the others are found too, and nobody wants them
					entries[i].Act.Right.N = 0
				}
			}
			synctest.Test(t, func(t *testing.T) { log.Verify(tea(), entries) })
		}
	}
}

// Goroutines are joined, not only told to end: on one processor those that are left behind would be counted. (One that is cut off at its very last step may be, too: so a few times do not count.)
func TestP11_7GoroutinesJoined(t *testing.T) {
	defer runtime.GOMAXPROCS(runtime.GOMAXPROCS(1))
	row := rejected(600)
	row[3].Act.Right.N = 0
	const rounds = 200
	left := 0
	for range rounds {
		before := runtime.NumGoroutine()
		log.Verify(tea(), row)
		if runtime.NumGoroutine() > before {
			left++
		}
	}
	if left > rounds/4 {
		t.Errorf("goroutines were left behind %d times of %d", left, rounds)
	}
}

// The same is told each time, also while others verify and read the same row.
func TestP11_7NotSeen(t *testing.T) {
	row := rejected(600)
	for _, place := range []int{130, 131, 250, 260, 500, 599} {
		row[place].Outcome = api.Granted
	}
	want, n, errno := log.Verify(tea(), row)
	if n != 130 || errno != api.ErrBookOutcome {
		t.Fatalf("Verify: %d, %d", n, errno)
	}
	var all sync.WaitGroup
	for range 8 {
		all.Go(func() {
			for range 60 {
				if s, m, e := log.Verify(tea(), row); m != n || e != errno || text(s) != text(want) {
					t.Errorf("Verify: %+v, %d, %d", s, m, e)
				}
			}
		})
	}
	all.Wait()
}

// odd are numbers at which something may break.
var odd = []int{0, 1, -1, 2, 3, 8, 9, 63, 64, 1 << 32, 1 << 40, 1 << 53, 1 << 54, math.MaxInt - 1, math.MaxInt, math.MinInt}

func (r chance) odd() int { return odd[r.Intn(len(odd))] }

// small is often a number that is there.
func (r chance) small() int {
	if r.Intn(3) > 0 {
		return r.Intn(4)
	}
	return r.odd()
}

func (r chance) oddRight() api.Right {
	return api.Right{Counter: r.small(), Way: r.small(), N: int64(r.small())}
}

func (r chance) oddEntry() api.Entry {
	lines := []api.Line{{Counter: r.small(), Change: int64(r.small())}}
	sets := []api.Set{{Price: r.small(), Version: r.small(), N: int64(r.small())}}
	a := api.Act{Head: head(r.small(), uint64(r.small())), Kind: r.Intn(8) - 1, Right: r.oddRight(), To: r.small(), Gen: uint64(r.small())}
	a.Lines, a.Sets, a.Merge = lines, sets, api.Merge{Kind: r.Intn(6) - 1, Other: lines}
	a.Guards, a.Rights = []api.Guard{{Kind: r.Intn(7) - 1, What: r.small(), N: int64(r.odd())}}, []api.Right{r.oddRight()}
	return api.Entry{Position: uint64(r.small()), Act: a, Outcome: r.Intn(8) - 1, Made: lines, Sets: sets, N: int64(r.odd()), Fence: r.small(), Gen: uint64(r.small())}
}

func (r chance) oddConfig() api.Config {
	c := r.config()
	c.Tills = r.small()
	for i := range c.Counters {
		c.Counters[i] = api.Counter{Lo: int64(r.odd()), Hi: int64(r.odd()), Start: int64(r.odd())}
	}
	if r.Intn(4) == 0 {
		c.Counters = nil
	}
	return c
}

// Nothing may panic, of whatever configuration and entries.
func TestR3Whatever(t *testing.T) {
	r := chance{rand.New(rand.NewSource(5))}
	for range 3000 {
		good := r.config()
		entries, _ := r.row(t, good, r.Intn(20))
		for range r.Intn(4) {
			entries = append(entries, r.oddEntry())
		}
		for _, c := range []api.Config{good, r.oddConfig(), {}} {
			l := log.New(c)
			for _, e := range entries {
				l.Add(e)
			}
			l.At(uint64(r.odd()))
			l.From(uint64(r.odd()), r.odd())
			l.State()
			log.Verify(c, entries)
		}
	}
}
