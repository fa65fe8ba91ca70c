package book_test

import (
	"math/big"
	"math/rand"
	"slices"
	"testing"

	"till/act"
	"till/api"
	"till/book"
	"till/rule"
)

func cloned(s api.State) api.State {
	s.Pools, s.Prices = slices.Clone(s.Pools), slices.Clone(s.Prices)
	for i := range s.Pools {
		s.Pools[i].Held = slices.Clone(s.Pools[i].Held)
	}
	s.Last, s.Gen, s.Owed = slices.Clone(s.Last), slices.Clone(s.Gen), slices.Clone(s.Owed)
	return s
}

// whose is a counter, a way and a holder: a till, or nobody.
type whose struct{ counter, way, holder int }

const nobody = -1

// ledger is a state's rights and values in another form: how many there are of each, and where they go is told by names.
type ledger struct {
	rights map[whose]int64
	values map[int]int64
}

func ledgerOf(s api.State) ledger {
	out := ledger{map[whose]int64{}, map[int]int64{}}
	for counter, pool := range s.Pools {
		out.values[counter] = pool.Value
		for way := range 2 {
			out.rights[whose{counter, way, nobody}] = pool.Free[way]
			for till, held := range pool.Held {
				out.rights[whose{counter, way, till}] = held[way]
			}
		}
	}
	return out
}

// goes takes rights from one and gives them to another.
func (l ledger) goes(x api.Right, n int64, from, to int) {
	l.rights[whose{x.Counter, x.Way, from}] -= n
	l.rights[whose{x.Counter, x.Way, to}] += n
}

// carry does what DOC.md's table says of the entry.
func (l ledger) carry(e api.Entry) {
	a := e.Act
	switch {
	case e.Outcome == api.Granted:
		l.goes(a.Right, e.N, nobody, a.Till)
	case e.Outcome == api.Done && a.Kind == api.ActGive:
		l.goes(a.Right, a.Right.N, a.Till, nobody)
	case e.Outcome == api.Done && a.Kind == api.ActPass:
		l.goes(a.Right, a.Right.N, a.Till, a.To)
	case e.Outcome == api.Done && a.Kind == api.ActYield:
		for _, x := range a.Rights {
			l.goes(x, x.N, a.Till, nobody)
		}
	}
	by := nobody
	if a.Sure {
		by = a.Till
	}
	for _, x := range e.Made { // none but of what was applied or merged
		l.values[x.Counter] += x.Change
		down := -x.Change // of a change up both go the other way round
		if x.Change < 0 {
			l.rights[whose{x.Counter, api.Down, by}] -= down
			l.rights[whose{x.Counter, api.Up, nobody}] += down
		} else {
			l.rights[whose{x.Counter, api.Up, by}] += down
			l.rights[whose{x.Counter, api.Down, nobody}] -= down
		}
	}
}

// modelFold is the state behind an entry that folds.
func modelFold(s api.State, e api.Entry) api.State {
	l := ledgerOf(s)
	l.carry(e)
	s = cloned(s)
	for at, n := range l.rights {
		if at.holder == nobody {
			s.Pools[at.counter].Free[at.way] = n
		} else {
			s.Pools[at.counter].Held[at.holder][at.way] = n
		}
	}
	for counter, value := range l.values {
		s.Pools[counter].Value = value
	}
	for _, x := range e.Sets {
		s.Prices[x.Price].Price, s.Prices[x.Price].Version = x.N, s.Prices[x.Price].Version+1
	}
	s.Position++
	switch {
	case e.Act.Kind == api.ActNone:
		s.Gen[e.Fence]++
		s.Owed[e.Fence] = true
	case e.Act.Kind == api.ActYield && e.Outcome == api.Done:
		s.Owed[e.Act.Till] = false
		fallthrough
	default:
		s.Last[e.Act.Till]++
	}
	return s
}

// modelRight goes down the words of P10.2, with numbers of any size.
func modelRight(c api.Config, s api.State) bool {
	ok := len(s.Pools) == len(c.Counters) && len(s.Prices) == len(c.Prices)
	for _, n := range []int{len(s.Last), len(s.Gen), len(s.Owed)} {
		ok = ok && n == c.Tills
	}
	ok = ok && s.Position <= api.MaxNumber
	if !ok {
		return false
	}
	for i, pool := range s.Pools {
		x := c.Counters[i]
		ok = ok && len(pool.Held) == c.Tills && x.Lo <= pool.Value && pool.Value <= x.Hi
		for way, slack := range []int64{pool.Value - x.Lo, x.Hi - pool.Value} {
			all := big.NewInt(pool.Free[way])
			ok = ok && pool.Free[way] >= 0
			for _, held := range pool.Held {
				all.Add(all, big.NewInt(held[way]))
				ok = ok && held[way] >= 0 && held[way] <= api.MaxHeld
			}
			ok = ok && all.Cmp(big.NewInt(slack)) == 0
		}
	}
	for _, x := range s.Prices {
		ok = ok && x.Price >= 0 && x.Price <= api.MaxAmount && x.Version >= 0 && x.Version <= api.MaxNumber
	}
	for till := range c.Tills {
		ok = ok && s.Last[till] <= api.MaxNumber && s.Gen[till] <= api.MaxNumber && !(s.Owed[till] && s.Gen[till] == 0)
	}
	return ok
}

// chance draws what may be, the edges often.
type chance struct{ *rand.Rand }

func (r chance) number(least, most int64) int64 {
	switch r.Intn(4) {
	case 0:
		return least
	case 1:
		return most
	case 2:
		return least + r.Int63n(min(most-least, 9)+1)
	}
	return least + r.Int63n(most-least+1)
}

// near is a number from 1 to most that often is just n, or next to it.
func (r chance) near(n, most int64) int64 {
	if r.Intn(4) > 0 {
		n += int64(r.Intn(3)) - 1
	} else {
		n = r.number(1, 12)
	}
	return min(max(n, 1), most)
}

func (r chance) config() api.Config {
	c := api.Config{Tills: 1 + r.Intn(4), Lease: 1, Watch: 9, Beat: 1, Window: 1, Cap: 1, Flight: 1}
	for i := range 1 + r.Intn(3) {
		bound := []int64{6, 30, api.MaxBound}[r.Intn(3)]
		x := api.Counter{Name: string(rune('a' + i)), Lo: r.number(-bound, bound)}
		x.Hi = r.number(x.Lo, bound)
		x.Start = r.number(x.Lo, x.Hi)
		c.Counters = append(c.Counters, x)
	}
	for i := range r.Intn(4) {
		c.Prices = append(c.Prices, api.Price{Name: string(rune('a' + i)), Start: r.number(0, api.MaxAmount)})
	}
	return c
}

// parts are numbers that are n together.
func (r chance) parts(n int64, into int) []int64 {
	out := make([]int64, into)
	for i := range out {
		out[i] = r.number(0, n)
		n -= out[i]
	}
	out[r.Intn(into)] += n
	r.Shuffle(into, func(i, j int) { out[i], out[j] = out[j], out[i] })
	return out
}

// edge is a number of those that grow, the last ones often.
func (r chance) edge() uint64 {
	return []uint64{0, 1, 2, 3, api.MaxNumber - 2, api.MaxNumber - 1, api.MaxNumber}[r.Intn(7)]
}

// state draws a right state, as no row of entries may ever make it.
func (r chance) state(c api.Config) api.State {
	s := api.State{Position: r.edge()}
	for range c.Tills {
		gen := r.edge()
		s.Last, s.Gen, s.Owed = append(s.Last, r.edge()), append(s.Gen, gen), append(s.Owed, gen > 0 && r.Intn(2) > 0)
	}
	for _, x := range c.Counters {
		pool := api.Pool{Value: r.number(x.Lo, x.Hi), Held: make([][2]int64, c.Tills)}
		for way, slack := range []int64{pool.Value - x.Lo, x.Hi - pool.Value} {
			parts := r.parts(slack, c.Tills+1)
			pool.Free[way] = parts[0]
			for till := range c.Tills {
				pool.Held[till][way] = parts[till+1]
			}
		}
		s.Pools = append(s.Pools, pool)
	}
	for range c.Prices {
		s.Prices = append(s.Prices, api.Priced{Price: r.number(0, api.MaxAmount), Version: int64(r.edge())})
	}
	return s
}

func (r chance) lines(s api.State, n, holder int) []api.Line {
	var out []api.Line
	for range n {
		k, way := r.Intn(len(s.Pools)), r.Intn(2)
		x := api.Line{Counter: k, Change: r.near(ledgerOf(s).rights[whose{k, way, holder}], api.MaxAmount)}
		if r.Intn(3) == 0 {
			x.Change = 1
		}
		if way == api.Down {
			x.Change = -x.Change
		}
		out = append(out, x)
	}
	return out
}

func (r chance) sets(s api.State, merge int) []api.Set {
	var out []api.Set
	for _, price := range r.Perm(len(s.Prices))[:r.Intn(len(s.Prices)+1)] {
		x := api.Set{Price: price, Version: -1, N: r.number(0, api.MaxAmount)}
		if merge == api.MergeClamp && r.Intn(3) > 0 {
			x.Version = max(int(s.Prices[price].Version)-r.Intn(2), 0)
		}
		out = append(out, x)
	}
	return out
}

func (r chance) write(s api.State, till int, number uint64) api.Act {
	a := write(till, number)
	if a.Sure = r.Intn(3) == 0; a.Sure {
		a.Lines = r.lines(s, 1+r.Intn(3), till)
		return a
	}
	a.Merge.Kind = r.Intn(4)
	a.Sets = r.sets(s, a.Merge.Kind)
	if r.Intn(2) == 0 {
		k := r.Intn(len(s.Pools))
		a.Guards = []api.Guard{{Kind: api.GuardLeast + r.Intn(3), What: k, N: s.Pools[k].Value}}
	}
	least := 0
	if len(a.Sets) == 0 {
		least = 1
	}
	a.Lines = r.lines(s, least+r.Intn(4), nobody)
	if a.Merge.Kind == api.MergeOther {
		a.Merge.Other = r.lines(s, 1+r.Intn(2), nobody)
	}
	return a
}

// act draws a till's next act.
func (r chance) act(c api.Config, s api.State) api.Act {
	till, counter, way := r.Intn(c.Tills), r.Intn(len(s.Pools)), r.Intn(2)
	number, held := s.Last[till]+1, s.Pools[counter].Held[till][way]
	switch r.Intn(9) {
	case 0, 1:
		return right(api.ActAsk, till, number, counter, way, r.near(s.Pools[counter].Free[way], api.MaxAmount))
	case 2:
		return right(api.ActGive, till, number, counter, way, r.near(held, api.MaxAmount))
	case 3:
		if c.Tills > 1 {
			return pass(till, number, (till+1)%c.Tills, counter, way, r.near(held, api.MaxAmount))
		}
	case 4:
		a := yield(till, number, max(s.Gen[till], 1), book.Held(s, till)...)
		if len(a.Rights) > 1 && r.Intn(3) == 0 {
			a.Rights = a.Rights[:1]
		}
		return a
	}
	return r.write(s, till, number)
}

// stepped holds one entry that should fold against the model, and tells the state behind it.
func stepped(t *testing.T, c api.Config, s api.State, e api.Entry) api.State {
	t.Helper()
	before := text(s)
	u, errno := book.Fold(c, s, e)
	want := modelFold(s, e)
	if errno != api.OK || text(u) != text(want) {
		t.Fatalf("Fold of %+v\nin %s: %d\n got %s\nwant %s", e, before, errno, text(u), text(want))
	}
	if !book.Right(c, u) || !modelRight(c, u) {
		t.Fatalf("Fold of %+v: %s is not right", e, text(u))
	}
	if text(s) != before {
		t.Fatalf("Fold has changed %s", before)
	}
	othersKeep(t, s, u, e)
	return u
}

// othersKeep is P10.8.
func othersKeep(t *testing.T, s, u api.State, e api.Entry) {
	t.Helper()
	moved := make([]int64, len(s.Pools))
	for _, x := range e.Made {
		moved[x.Counter] += x.Change
	}
	for i, pool := range s.Pools {
		if u.Pools[i].Value != pool.Value+moved[i] {
			t.Fatalf("%+v: counter %d moved from %d to %d", e, i, pool.Value, u.Pools[i].Value)
		}
		for till, held := range pool.Held {
			if now := u.Pools[i].Held[till]; till != e.Act.Till && (now[0] < held[0] || now[1] < held[1]) {
				t.Fatalf("%+v: till %d held %v of counter %d, and holds %v", e, till, held, i, now)
			}
		}
	}
	if e.Act.Kind == api.ActNone && text(s.Pools) != text(u.Pools) {
		t.Fatalf("%+v: a fence has changed a pool", e)
	}
}

// tally counts what was drawn, so that a walk which meets nothing is seen.
type tally map[[2]int]int

func (n tally) look(t *testing.T) {
	t.Helper()
	for _, x := range [][2]int{
		{api.ActNone, api.OutcomeNone}, {api.ActWrite, api.Applied}, {api.ActWrite, api.Merged}, {api.ActWrite, api.Rejected}, {api.ActAsk, api.Granted},
		{api.ActGive, api.Done}, {api.ActGive, api.Rejected}, {api.ActPass, api.Done}, {api.ActPass, api.Rejected}, {api.ActYield, api.Done}, {api.ActYield, api.Rejected},
	} {
		if n[x] < 20 {
			t.Errorf("kind %d with outcome %d was drawn %d times only", x[0], x[1], n[x])
		}
	}
}

// Rows of entries from the first state on: each folds as the model says, and right stays right.
func TestP10_7Walks(t *testing.T) {
	r := chance{rand.New(rand.NewSource(1))}
	met := tally{}
	for range 120 {
		c := r.config()
		s := book.First(c)
		if act.Fits(c) != api.OK || !book.Right(c, s) || !modelRight(c, s) {
			t.Fatalf("First(%+v): %+v is not right", c, s)
		}
		for range 60 {
			if till := r.Intn(c.Tills); r.Intn(8) == 0 {
				e, ok := book.Fence(c, s, till)
				if ok == s.Owed[till] {
					t.Fatalf("Fence(%d) in %+v: %v", till, s, ok)
				}
				if ok {
					s = stepped(t, c, s, e)
					met[[2]int{}]++
				}
				continue
			}
			a := r.act(c, s)
			if errno := act.Check(c, a); errno != api.OK {
				t.Fatalf("Check(%+v): %d", a, errno)
			}
			e := book.Next(c, s, a)
			s = stepped(t, c, s, e)
			met[[2]int{a.Kind, e.Outcome}]++
		}
	}
	met.look(t)
}

// Of any right state an act has one entry, and no other one folds.
func TestP10_9OneEntry(t *testing.T) {
	r := chance{rand.New(rand.NewSource(2))}
	met := tally{}
	for range 4000 {
		c := r.config()
		s := r.state(c)
		if !book.Right(c, s) || !modelRight(c, s) {
			t.Fatalf("%+v is not right", s)
		}
		a := r.act(c, s)
		e := book.Next(c, s, a)
		want := api.Entry{Position: s.Position + 1, Act: a}
		want.Outcome, want.Made, want.Sets, want.N = rule.Judge(s, a)
		same(t, "Next", e, want)
		switch {
		case s.Position == api.MaxNumber:
			refuse(t, c, s, e, api.ErrBookOrder)
			continue
		case a.Number > api.MaxNumber:
			refuse(t, c, s, e, api.ErrBookAct)
			continue
		}
		stepped(t, c, s, e)
		met[[2]int{a.Kind, e.Outcome}]++
		for _, x := range spoiled(e) {
			refuse(t, c, s, x, api.ErrBookOutcome)
		}
		till := r.Intn(c.Tills)
		fence, ok := book.Fence(c, s, till)
		if may := !s.Owed[till] && s.Gen[till] < api.MaxNumber; ok != may {
			t.Fatalf("Fence(%d) in %+v: %v", till, s, ok)
		}
		if ok {
			stepped(t, c, s, fence)
			met[[2]int{}]++
		}
		fence.Position, fence.Fence, fence.Gen = s.Position+1, till, s.Gen[till]+1
		if !ok {
			refuse(t, c, s, fence, api.ErrBookFence)
		}
	}
	met.look(t)
}

// numbers are all numbers of a state.
func numbers(s *api.State) (signed []*int64, unsigned []*uint64) {
	unsigned = []*uint64{&s.Position}
	for i := range s.Pools {
		pool := &s.Pools[i]
		signed = append(signed, &pool.Value, &pool.Free[0], &pool.Free[1])
		for till := range pool.Held {
			signed = append(signed, &pool.Held[till][0], &pool.Held[till][1])
		}
	}
	for i := range s.Prices {
		signed = append(signed, &s.Prices[i].Price, &s.Prices[i].Version)
	}
	for i := range s.Last {
		unsigned = append(unsigned, &s.Last[i], &s.Gen[i])
	}
	return signed, unsigned
}

// A state in which one number or two are others is right just if the words say so.
func TestP10_2Changed(t *testing.T) {
	r := chance{rand.New(rand.NewSource(3))}
	met := map[bool]int{}
	for range 6000 {
		c := r.config()
		s := r.state(c)
		signed, unsigned := numbers(&s)
		for range 1 + r.Intn(2) {
			if r.Intn(4) == 0 {
				*unsigned[r.Intn(len(unsigned))] += uint64(r.Intn(3)) - 1
			} else {
				*signed[r.Intn(len(signed))] += int64(r.Intn(3)) - 1
			}
		}
		if r.Intn(4) == 0 {
			till := r.Intn(c.Tills)
			s.Owed[till] = !s.Owed[till]
		}
		got, want := book.Right(c, s), modelRight(c, s)
		met[got]++
		if got != want {
			t.Fatalf("Right of %+v\nwith %+v: %v", s, c, got)
		}
	}
	if met[true] < 500 || met[false] < 500 {
		t.Errorf("drawn: %v", met)
	}
}
