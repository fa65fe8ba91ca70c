package rule_test

import (
	"math/big"
	"math/rand"
	"slices"
	"testing"

	"till/act"
	"till/api"
	"till/rule"
)

func cloned(s api.State) api.State {
	s.Pools, s.Prices = slices.Clone(s.Pools), slices.Clone(s.Prices)
	for i := range s.Pools {
		s.Pools[i].Held = slices.Clone(s.Pools[i].Held)
	}
	s.Last, s.Gen, s.Owed = slices.Clone(s.Last), slices.Clone(s.Gen), slices.Clone(s.Owed)
	return s
}

// amount is a change's way and its amount.
func amount(change int64) (int, int64) {
	if change < 0 {
		return api.Down, -change
	}
	return api.Up, change
}

// fund is where the rights of a counter and a way are: the free ones, or a till's.
type fund func(s api.State, counter, way int) *int64

func freeOnes(s api.State, counter, way int) *int64 { return &s.Pools[counter].Free[way] }

func heldBy(till int) fund {
	return func(s api.State, counter, way int) *int64 { return &s.Pools[counter].Held[till][way] }
}

// change carries a line out, and tells whether all the rights for it were there.
func change(s api.State, x api.Line, from fund) bool {
	way, n := amount(x.Change)
	rights := from(s, x.Counter, way)
	*rights -= n
	s.Pools[x.Counter].Value += x.Change
	s.Pools[x.Counter].Free[1-way] += n
	return *rights >= 0
}

// modelAffordable adds up, of each counter and way, in numbers of any size.
func modelAffordable(s api.State, lines []api.Line, from fund) bool {
	for counter := range s.Pools {
		for _, way := range []int{api.Down, api.Up} {
			need := new(big.Int)
			for _, x := range lines {
				if w, n := amount(x.Change); x.Counter == counter && w == way {
					need.Add(need, big.NewInt(n))
				}
			}
			if need.Cmp(big.NewInt(*from(s, counter, way))) > 0 {
				return false
			}
		}
	}
	return true
}

func modelGuard(s api.State, x api.Guard) bool {
	if x.Kind == api.GuardVersion {
		return s.Prices[x.What].Version == x.N
	}
	far := s.Pools[x.What].Value - x.N
	return x.Kind == api.GuardLeast && far >= 0 || x.Kind == api.GuardMost && far <= 0 || x.Kind == api.GuardIs && far == 0
}

func modelOpen(s api.State, sets []api.Set) bool {
	return !slices.ContainsFunc(sets, func(x api.Set) bool { return s.Prices[x.Price].Version >= api.MaxNumber })
}

// modelSets makes settings in a state, and tells how they then stand in an entry.
func modelSets(s api.State, sets []api.Set) []api.Set {
	var out []api.Set
	for _, x := range sets {
		price := &s.Prices[x.Price]
		price.Price, price.Version = x.N, price.Version+1
		out = append(out, api.Set{Price: x.Price, Version: int(price.Version), N: x.N})
	}
	return out
}

// modelClamp carries the lines out one behind the other, each as far as there are rights then.
func modelClamp(s api.State, a api.Act) answer {
	var x answer
	for _, y := range a.Lines {
		way, n := amount(y.Change)
		if there := *freeOnes(s, y.Counter, way); n > there {
			y.Change = y.Change / n * there
		}
		if y.Change != 0 {
			change(s, y, freeOnes)
			x.made = append(x.made, y)
		}
	}
	for _, y := range a.Sets {
		if (y.Version == -1 || int64(y.Version) == s.Prices[y.Price].Version) && modelOpen(s, []api.Set{y}) {
			x.sets = append(x.sets, modelSets(s, []api.Set{y})...)
		}
	}
	x.outcome = api.Rejected
	if len(x.made)+len(x.sets) > 0 {
		x.outcome = api.Merged
	}
	return x
}

// modelWrite goes down the rows of DOC.md's table.
func modelWrite(s api.State, a api.Act) answer {
	ready := modelAffordable(s, a.Lines, freeOnes) && modelOpen(s, a.Sets)
	hold := !slices.ContainsFunc(a.Guards, func(x api.Guard) bool { return !modelGuard(s, x) })
	switch {
	case a.Sure && modelAffordable(s, a.Lines, heldBy(a.Till)):
		return answer{outcome: api.Applied, made: a.Lines}
	case a.Sure:
		return answer{outcome: api.Rejected}
	case hold && ready:
		return answer{outcome: api.Applied, made: a.Lines, sets: modelSets(s, a.Sets)}
	case a.Merge.Kind == api.MergeClamp:
		return modelClamp(s, a)
	case a.Merge.Kind == api.MergeOther && modelAffordable(s, a.Merge.Other, freeOnes):
		return answer{outcome: api.Merged, made: a.Merge.Other}
	case a.Merge.Kind == api.MergeForce && ready:
		return answer{outcome: api.Merged, made: a.Lines, sets: modelSets(s, a.Sets)}
	}
	return answer{outcome: api.Rejected}
}

func modelJudge(s api.State, a api.Act) answer {
	s = cloned(s)
	x, d := a.Right, a.Till
	done := true
	switch a.Kind {
	case api.ActWrite:
		return modelWrite(s, a)
	case api.ActAsk:
		n := x.N
		for _, bound := range []int64{s.Pools[x.Counter].Free[x.Way], api.MaxHeld - s.Pools[x.Counter].Held[d][x.Way]} {
			if n > bound {
				n = bound
			}
		}
		return answer{outcome: api.Granted, n: n}
	case api.ActGive:
		done = s.Pools[x.Counter].Held[d][x.Way] >= x.N
	case api.ActPass:
		done = s.Pools[x.Counter].Held[d][x.Way] >= x.N && s.Pools[x.Counter].Held[a.To][x.Way]+x.N <= api.MaxHeld
	case api.ActYield:
		done = s.Gen[d] == a.Gen && s.Owed[d]
		for _, y := range a.Rights {
			done = done && s.Pools[y.Counter].Held[d][y.Way] >= y.N
		}
	}
	if done {
		return answer{outcome: api.Done}
	}
	return answer{outcome: api.Rejected}
}

// chance draws what may be, the edges often.
type chance struct{ *rand.Rand }

func (r chance) number(least, most int64) int64 {
	switch r.Intn(4) {
	case 0:
		return least
	case 1:
		return most
	case 2:
		return least + r.Int63n(min(most-least, 9)+1)
	}
	return least + r.Int63n(most-least+1)
}

// near is a number from 1 to most that often is just n, or next to it.
func (r chance) near(n, most int64) int64 {
	if r.Intn(4) > 0 {
		n += int64(r.Intn(3)) - 1
	} else {
		n = r.number(1, 12)
	}
	return min(max(n, 1), most)
}

// parts are numbers that are n together.
func (r chance) parts(n int64, into int) []int64 {
	out := make([]int64, into)
	for i := range out {
		out[i] = r.number(0, n)
		n -= out[i]
	}
	out[r.Intn(into)] += n
	r.Shuffle(into, func(i, j int) { out[i], out[j] = out[j], out[i] })
	return out
}

// state draws a right state, and the configuration of which it is one.
func (r chance) state() (api.Config, api.State) {
	c := api.Config{Tills: 1 + r.Intn(4), Lease: 1, Watch: 9, Beat: 1, Window: 1, Cap: 1, Flight: 1}
	s := api.State{Position: uint64(r.Intn(99))}
	for range c.Tills {
		gen := uint64(r.number(0, 2))
		s.Last, s.Gen, s.Owed = append(s.Last, uint64(r.Intn(9))), append(s.Gen, gen), append(s.Owed, gen > 0 && r.Intn(3) > 0)
	}
	for i := range 1 + r.Intn(3) {
		bound := []int64{6, 12, api.MaxBound}[r.Intn(3)]
		counter := api.Counter{Name: string(rune('a' + i)), Lo: r.number(-bound, bound)}
		counter.Hi = r.number(counter.Lo, bound)
		counter.Start = counter.Lo
		pool := api.Pool{Value: r.number(counter.Lo, counter.Hi), Held: make([][2]int64, c.Tills)}
		for way, slack := range []int64{pool.Value - counter.Lo, counter.Hi - pool.Value} {
			parts := r.parts(slack, c.Tills+1)
			pool.Free[way] = parts[0]
			for till := range c.Tills {
				pool.Held[till][way] = parts[till+1]
			}
		}
		c.Counters, s.Pools = append(c.Counters, counter), append(s.Pools, pool)
	}
	for i := range r.Intn(5) {
		c.Prices = append(c.Prices, api.Price{Name: string(rune('a' + i))})
		s.Prices = append(s.Prices, api.Priced{Price: r.number(0, api.MaxAmount), Version: []int64{0, 1, 2, 3, api.MaxNumber - 1, api.MaxNumber}[r.Intn(6)]})
	}
	return c, s
}

func (r chance) lines(s api.State, n int, from fund) []api.Line {
	var out []api.Line
	for range n {
		k, way := r.Intn(len(s.Pools)), r.Intn(2)
		x := api.Line{Counter: k, Change: r.near(*from(s, k, way), api.MaxAmount)}
		if r.Intn(3) == 0 {
			x.Change = 1
		}
		if way == api.Down {
			x.Change = -x.Change
		}
		out = append(out, x)
	}
	return out
}

func (r chance) guards(s api.State) []api.Guard {
	var out []api.Guard
	for range r.Intn(3) {
		x := api.Guard{Kind: 1 + r.Intn(3), What: r.Intn(len(s.Pools))}
		x.N = s.Pools[x.What].Value + int64(r.Intn(5)-2)
		x.N = min(max(x.N, -api.MaxBound), api.MaxBound)
		if len(s.Prices) > 0 && r.Intn(3) == 0 {
			x = api.Guard{Kind: api.GuardVersion, What: r.Intn(len(s.Prices))}
			x.N = max(s.Prices[x.What].Version-int64(r.Intn(2)), 0)
		}
		out = append(out, x)
	}
	return out
}

func (r chance) sets(s api.State, merge int) []api.Set {
	var out []api.Set
	for _, price := range r.Perm(len(s.Prices))[:r.Intn(len(s.Prices)+1)] {
		x := api.Set{Price: price, Version: -1, N: r.number(0, api.MaxAmount)}
		if merge == api.MergeClamp && r.Intn(3) > 0 {
			x.Version = max(int(s.Prices[price].Version)-r.Intn(2), 0)
		}
		out = append(out, x)
	}
	return out
}

func (r chance) write(s api.State, till int) api.Act {
	a := write()
	a.Till, a.Sure = till, r.Intn(3) == 0
	if a.Sure {
		a.Lines = r.lines(s, 1+r.Intn(3), heldBy(till))
		return a
	}
	a.Merge.Kind = r.Intn(4)
	a.Guards, a.Sets = r.guards(s), r.sets(s, a.Merge.Kind)
	least := 0
	if len(a.Sets) == 0 {
		least = 1
	}
	a.Lines = r.lines(s, least+r.Intn(2), freeOnes)
	if r.Intn(3) == 0 {
		a.Lines = r.lines(s, least+r.Intn(api.MaxLines-least+1), freeOnes)
	}
	if a.Merge.Kind == api.MergeOther {
		a.Merge.Other = r.lines(s, 1+r.Intn(3), freeOnes)
	}
	return a
}

func (r chance) act(c api.Config, s api.State) api.Act {
	till, counter, way := r.Intn(c.Tills), r.Intn(len(s.Pools)), r.Intn(2)
	held := s.Pools[counter].Held[till][way]
	switch r.Intn(8) {
	case 0:
		return right(api.ActAsk, till, counter, way, r.near(s.Pools[counter].Free[way], api.MaxAmount))
	case 1:
		return right(api.ActGive, till, counter, way, r.near(held, api.MaxAmount))
	case 2:
		if c.Tills > 1 {
			return pass(till, (till+1)%c.Tills, counter, way, r.near(held, api.MaxAmount))
		}
	case 3:
		return r.yield(s, till)
	}
	return r.write(s, till)
}

func (r chance) yield(s api.State, till int) api.Act {
	a := yield(till, max(s.Gen[till]+uint64(r.Intn(4)/3), 1))
	for counter, pool := range s.Pools {
		for way, n := range pool.Held[till] {
			switch {
			case n < api.MaxHeld && r.Intn(9) == 0:
				a.Rights = append(a.Rights, api.Right{Counter: counter, Way: way, N: n + 1})
			case n > 0 && r.Intn(4) > 0:
				a.Rights = append(a.Rights, api.Right{Counter: counter, Way: way, N: n})
			}
		}
	}
	return a
}

// drawn calls look with many states and acts, and fails if some outcome of a kind was never drawn.
func drawn(t *testing.T, seed int64, rounds int, look func(r chance, c api.Config, s api.State, a api.Act)) {
	r := chance{rand.New(rand.NewSource(seed))}
	seen := map[[3]int]int{}
	for range rounds {
		c, s := r.state()
		for range 4 {
			a := r.act(c, s)
			if act.Fits(c) != api.OK || act.Check(c, a) != api.OK {
				t.Fatalf("drawn wrongly: %+v of %+v: %d", a, c, act.Check(c, a))
			}
			merge := a.Merge.Kind
			if a.Sure {
				merge = -1
			}
			seen[[3]int{a.Kind, merge, modelJudge(s, a).outcome}]++
			look(r, c, s, a)
		}
	}
	for _, x := range [][3]int{
		{api.ActWrite, -1, api.Applied}, {api.ActWrite, -1, api.Rejected},
		{api.ActWrite, api.MergeNone, api.Applied}, {api.ActWrite, api.MergeNone, api.Rejected},
		{api.ActWrite, api.MergeClamp, api.Applied}, {api.ActWrite, api.MergeClamp, api.Merged}, {api.ActWrite, api.MergeClamp, api.Rejected},
		{api.ActWrite, api.MergeOther, api.Applied}, {api.ActWrite, api.MergeOther, api.Merged}, {api.ActWrite, api.MergeOther, api.Rejected},
		{api.ActWrite, api.MergeForce, api.Applied}, {api.ActWrite, api.MergeForce, api.Merged}, {api.ActWrite, api.MergeForce, api.Rejected},
		{api.ActAsk, 0, api.Granted}, {api.ActGive, 0, api.Done}, {api.ActGive, 0, api.Rejected},
		{api.ActPass, 0, api.Done}, {api.ActPass, 0, api.Rejected}, {api.ActYield, 0, api.Done}, {api.ActYield, 0, api.Rejected},
	} {
		if seen[x] < 20 {
			t.Errorf("kind %d, merge %d, outcome %d was drawn %d times", x[0], x[1], x[2], seen[x])
		}
	}
}

func TestP9_1To4Drawn(t *testing.T) {
	drawn(t, 1, 10000, func(r chance, c api.Config, s api.State, a api.Act) {
		if got, want := judge(s, a), modelJudge(s, a); !got.same(want) {
			t.Fatalf("%+v in %+v: %+v, want %+v", a, s, got, want)
		}
		if got, want := rule.Free(s, a.Lines), modelAffordable(s, a.Lines, freeOnes); got != want {
			t.Fatalf("Free of %v in %+v: %v", a.Lines, s, got)
		}
		till := r.Intn(c.Tills)
		if got, want := rule.Holds(s, till, a.Lines), modelAffordable(s, a.Lines, heldBy(till)); got != want {
			t.Fatalf("Holds of %d, %v in %+v: %v", till, a.Lines, s, got)
		}
		lookNeeds(t, a.Lines)
	})
}

// lookNeeds asks of each counter and way by itself.
func lookNeeds(t *testing.T, lines []api.Line) {
	var want []api.Right
	for counter := range 3 {
		for _, way := range []int{api.Down, api.Up} {
			x := api.Right{Counter: counter, Way: way}
			for _, y := range lines {
				if w, n := amount(y.Change); y.Counter == counter && w == way {
					x.N += n
				}
			}
			if x.N > 0 {
				want = append(want, x)
			}
		}
	}
	if got := rule.Needs(lines); !slices.Equal(got, want) {
		t.Fatalf("Needs of %v: %v, want %v", lines, got, want)
	}
}

func TestP9_6WhatIsMadeCanBeCarriedOut(t *testing.T) {
	drawn(t, 2, 10000, func(r chance, c api.Config, s api.State, a api.Act) {
		got := judge(s, a)
		from, behind := fund(freeOnes), cloned(s)
		if a.Sure {
			from = heldBy(a.Till)
		}
		for _, x := range got.made {
			ok := change(behind, x, from)
			if value := behind.Pools[x.Counter].Value; !ok || value < c.Counters[x.Counter].Lo || value > c.Counters[x.Counter].Hi {
				t.Fatalf("%+v in %+v: %v cannot be carried out", a, s, got.made)
			}
		}
		for _, x := range got.sets {
			if x.Version < 1 || x.Version > api.MaxNumber {
				t.Fatalf("%+v in %+v: %v cannot be made", a, s, got.sets)
			}
		}
		if got.outcome == api.Applied {
			lookApplied(t, a, got)
		}
		if got.outcome == api.Merged && a.Merge.Kind == api.MergeClamp {
			lookClamped(t, a.Lines, got.made)
		}
		e := api.Entry{Position: 1, Act: a, Outcome: got.outcome, Made: got.made, Sets: got.sets, N: got.n}
		if errno := act.CheckEntry(c, e); errno != api.OK {
			t.Fatalf("no entry may be so: %+v: %d", e, errno)
		}
	})
}

// lookApplied: just the lines and the settings.
func lookApplied(t *testing.T, a api.Act, got answer) {
	same := slices.EqualFunc(got.sets, a.Sets, func(x, y api.Set) bool { return x.Price == y.Price && x.N == y.N })
	if !slices.Equal(got.made, a.Lines) || !same {
		t.Fatalf("%+v: %+v", a, got)
	}
}

// lookClamped goes along the lines: each change that was made is of one of them, in their order, of its way and no greater.
func lookClamped(t *testing.T, lines, made []api.Line) {
	rest := lines
	for _, x := range made {
		way, n := amount(x.Change)
		i := slices.IndexFunc(rest, func(y api.Line) bool {
			w, m := amount(y.Change)
			return y.Counter == x.Counter && w == way && 0 < n && n <= m
		})
		if i < 0 {
			t.Fatalf("%v of %v", made, lines)
		}
		rest = rest[i+1:]
	}
}

// stranger is a state in which all but the lengths is drawn anew. It is right, too: of counters with other bounds.
func (r chance) stranger(s api.State) api.State {
	s = cloned(s)
	s.Position += 5
	few := func() [2]int64 { return [2]int64{int64(r.Intn(9)), int64(r.Intn(9))} }
	for i := range s.Pools {
		s.Pools[i].Value, s.Pools[i].Free = int64(r.Intn(40)-20), few()
		for till := range s.Pools[i].Held {
			s.Pools[i].Held[till] = few()
		}
	}
	for i := range s.Prices {
		s.Prices[i] = api.Priced{Price: r.number(0, api.MaxAmount), Version: r.number(0, api.MaxNumber)}
	}
	for till := range s.Gen {
		s.Last[till], s.Gen[till], s.Owed[till] = uint64(r.Intn(9)), 1+uint64(r.Intn(3)), r.Intn(2) == 0
	}
	return s
}

// bring lays into a state what the act hangs on in another one, and nothing else.
func bring(into, s api.State, a api.Act) {
	one := func(till, counter, way int) {
		into.Pools[counter].Held[till][way] = s.Pools[counter].Held[till][way]
	}
	switch a.Kind {
	case api.ActWrite:
		bringWrite(into, s, a, one)
	case api.ActAsk:
		one(a.Till, a.Right.Counter, a.Right.Way)
		into.Pools[a.Right.Counter].Free[a.Right.Way] = s.Pools[a.Right.Counter].Free[a.Right.Way]
	case api.ActGive:
		one(a.Till, a.Right.Counter, a.Right.Way)
	case api.ActPass:
		one(a.Till, a.Right.Counter, a.Right.Way)
		one(a.To, a.Right.Counter, a.Right.Way)
	case api.ActYield:
		into.Gen[a.Till], into.Owed[a.Till] = s.Gen[a.Till], s.Owed[a.Till]
		for _, x := range a.Rights {
			one(a.Till, x.Counter, x.Way)
		}
	}
}

func bringWrite(into, s api.State, a api.Act, one func(till, counter, way int)) {
	for _, x := range a.Lines {
		if way, _ := amount(x.Change); a.Sure {
			one(a.Till, x.Counter, way)
		}
	}
	if a.Sure {
		return
	}
	for _, x := range slices.Concat(a.Lines, a.Merge.Other) {
		into.Pools[x.Counter].Free = s.Pools[x.Counter].Free
	}
	for _, x := range a.Guards {
		if x.Kind == api.GuardVersion {
			into.Prices[x.What].Version = s.Prices[x.What].Version
		} else {
			into.Pools[x.What].Value = s.Pools[x.What].Value
		}
	}
	for _, x := range a.Sets {
		into.Prices[x.Price].Version = s.Prices[x.Price].Version
	}
}

func TestP9_7NothingElseIsAsked(t *testing.T) {
	drawn(t, 3, 5000, func(r chance, c api.Config, s api.State, a api.Act) {
		want := judge(s, a)
		for range 3 {
			other := r.stranger(s)
			bring(other, s, a)
			if got := judge(other, a); !got.same(want) {
				t.Fatalf("%+v: %+v in %+v, %+v in %+v", a, want, s, got, other)
			}
		}
	})
}
