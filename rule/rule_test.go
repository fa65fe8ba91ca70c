package rule_test

import (
	"fmt"
	"slices"
	"testing"

	"till/api"
	"till/rule"
)

// shelf is the state of the chapter's examples: one till; a counter from 0 to 10 at 6, of whose rights down the till holds 2; a price of 5, set three times.
func shelf() api.State {
	return api.State{
		Pools:  []api.Pool{{Value: 6, Free: [2]int64{4, 4}, Held: [][2]int64{{2, 0}}}},
		Prices: []api.Priced{{Price: 5, Version: 3}},
		Last:   []uint64{0}, Gen: []uint64{0}, Owed: []bool{false},
	}
}

// store has three tills, three counters (0 to 20, -5 to 5, 7 to 7) and three prices, the last of which cannot be set any more; till 1 owes a yield.
func store() api.State {
	return api.State{
		Position: 9,
		Pools: []api.Pool{
			{Value: 12, Free: [2]int64{3, 6}, Held: [][2]int64{{4, 2}, {5, 0}, {0, 0}}},
			{Value: -2, Free: [2]int64{0, 7}, Held: [][2]int64{{0, 0}, {1, 0}, {2, 0}}},
			{Value: 7, Held: [][2]int64{{0, 0}, {0, 0}, {0, 0}}},
		},
		Prices: []api.Priced{{Price: 5}, {Price: 250, Version: api.MaxNumber - 1}, {Price: 9, Version: api.MaxNumber}},
		Last:   []uint64{3, 5, 0}, Gen: []uint64{1, 2, 0}, Owed: []bool{false, true, false},
	}
}

// l is lines of counter 0.
func l(changes ...int64) []api.Line {
	var out []api.Line
	for _, n := range changes {
		out = append(out, api.Line{Change: n})
	}
	return out
}

func write(lines ...api.Line) api.Act {
	return api.Act{Head: api.Head{Number: 1}, Kind: api.ActWrite, Lines: lines}
}

func sure(till int, lines ...api.Line) api.Act {
	a := write(lines...)
	a.Till, a.Sure = till, true
	return a
}

func merged(a api.Act, kind int, other ...api.Line) api.Act {
	a.Merge = api.Merge{Kind: kind, Other: other}
	return a
}

func guarded(a api.Act, guards ...api.Guard) api.Act {
	a.Guards = guards
	return a
}

func setting(a api.Act, sets ...api.Set) api.Act {
	a.Sets = sets
	return a
}

// right is an ask, a give or a pass.
func right(kind, till, counter, way int, n int64) api.Act {
	return api.Act{Head: api.Head{Till: till, Number: 1}, Kind: kind, Right: api.Right{Counter: counter, Way: way, N: n}}
}

func pass(till, to, counter, way int, n int64) api.Act {
	a := right(api.ActPass, till, counter, way, n)
	a.To = to
	return a
}

func yield(till int, gen uint64, rights ...api.Right) api.Act {
	return api.Act{Head: api.Head{Till: till, Number: 1}, Kind: api.ActYield, Gen: gen, Rights: rights}
}

// answer is all that Judge tells.
type answer struct {
	outcome int
	made    []api.Line
	sets    []api.Set
	n       int64
}

func judge(s api.State, a api.Act) answer {
	var x answer
	x.outcome, x.made, x.sets, x.n = rule.Judge(s, a)
	return x
}

func (x answer) same(y answer) bool {
	return x.outcome == y.outcome && slices.Equal(x.made, y.made) && slices.Equal(x.sets, y.sets) && x.n == y.n
}

// judged is an act and what must become of it.
type judged struct {
	what string
	a    api.Act
	want answer
}

func look(t *testing.T, s api.State, list []judged) {
	t.Helper()
	for _, x := range list {
		if got := judge(s, x.a); !got.same(x.want) {
			t.Errorf("%s: %+v, want %+v", x.what, got, x.want)
		}
	}
}

func TestP9_1Needs(t *testing.T) {
	for _, x := range []struct {
		lines []api.Line
		want  []api.Right
	}{
		{nil, nil},
		{[]api.Line{}, nil},
		{l(-1, 3, -2), []api.Right{{N: 3}, {Way: api.Up, N: 3}}},
		{l(5), []api.Right{{Way: api.Up, N: 5}}},
		{l(-5), []api.Right{{N: 5}}},
		{
			[]api.Line{{Counter: 63, Change: 1}, {Counter: 2, Change: 4}, {Counter: 0, Change: 7}, {Counter: 2, Change: -1}, {Counter: 63, Change: api.MaxAmount}, {Counter: 10, Change: -api.MaxAmount}},
			[]api.Right{{Way: api.Up, N: 7}, {Counter: 2, N: 1}, {Counter: 2, Way: api.Up, N: 4}, {Counter: 10, N: api.MaxAmount}, {Counter: 63, Way: api.Up, N: api.MaxAmount + 1}},
		},
	} {
		if got := rule.Needs(x.lines); !slices.Equal(got, x.want) {
			t.Errorf("%v: %v, want %v", x.lines, got, x.want)
		}
	}
}

// most is as many lines as there may be.
const most = 1 << 13

func TestP9_1MostLines(t *testing.T) {
	down := slices.Repeat(l(-api.MaxAmount), most)
	if got := rule.Needs(down); !slices.Equal(got, []api.Right{{N: most * api.MaxAmount}}) {
		t.Errorf("of one kind: %v", got)
	}
	var lines []api.Line
	for i := range most {
		change := int64(api.MaxAmount)
		if i/64%2 == 0 {
			change = -change
		}
		lines = append(lines, api.Line{Counter: 63 - i%64, Change: change})
	}
	got := rule.Needs(lines)
	if len(got) != 128 {
		t.Fatalf("%d kinds", len(got))
	}
	for i, x := range got {
		if x != (api.Right{Counter: i / 2, Way: i % 2, N: most / 128 * api.MaxAmount}) {
			t.Errorf("%d: %v", i, x)
		}
	}
}

func TestP9_2Free(t *testing.T) {
	for _, x := range []struct {
		lines []api.Line
		want  bool
	}{
		{nil, true},
		{l(-3), true},
		{l(-4), false},
		{l(6), true},
		{l(7), false},
		{l(-1, -1, -1), true},
		{l(-1, -2, -1), false},
		{l(-3, 6), true},
		{l(6, -4), false}, // what a line frees is not counted
		{l(5, -3, 2), false},
		{[]api.Line{{Counter: 1, Change: -1}}, false},
		{[]api.Line{{Counter: 1, Change: 7}, {Change: -3}}, true},
		{[]api.Line{{Counter: 1, Change: 7}, {Change: -4}}, false},
		{[]api.Line{{Change: -3}, {Counter: 1, Change: 8}}, false},
		{[]api.Line{{Counter: 2, Change: 1}}, false},
		{[]api.Line{{Counter: 2, Change: -1}}, false},
	} {
		if got := rule.Free(store(), x.lines); got != x.want {
			t.Errorf("%v: %v", x.lines, got)
		}
	}
}

func TestP9_2Holds(t *testing.T) {
	for _, x := range []struct {
		till  int
		lines []api.Line
		want  bool
	}{
		{0, nil, true},
		{2, nil, true},
		{0, l(-4), true},
		{0, l(-5), false},
		{0, l(-2, 2, -2), true},
		{0, l(-2, 1, -2, 2), false},
		{1, l(-5), true},
		{1, l(-6), false},
		{1, l(1), false},
		{2, l(-1), false},
		{2, []api.Line{{Counter: 1, Change: -2}}, true},
		{1, []api.Line{{Counter: 1, Change: -2}}, false},
		{1, []api.Line{{Counter: 1, Change: -1}, {Change: -5}}, true},
		{1, []api.Line{{Counter: 1, Change: -1}, {Change: -6}}, false},
		{1, []api.Line{{Change: -5}, {Counter: 2, Change: -1}}, false},
	} {
		if got := rule.Holds(store(), x.till, x.lines); got != x.want {
			t.Errorf("till %d, %v: %v", x.till, x.lines, got)
		}
	}
}

// A counter as wide as may be, and as many lines as may be.
func TestP9_2MostLines(t *testing.T) {
	const all = most * api.MaxAmount
	s := api.State{Pools: []api.Pool{{Free: [2]int64{all - 1, 1}, Held: [][2]int64{{1, all - 1}}}}}
	down, up := slices.Repeat(l(-api.MaxAmount), most), slices.Repeat(l(api.MaxAmount), most)
	if rule.Free(s, down) || rule.Holds(s, 0, up) {
		t.Error("one more than there is")
	}
	down[most-1].Change++
	up[0].Change--
	if !rule.Free(s, down) || !rule.Holds(s, 0, up) {
		t.Error("just what there is")
	}
}

func TestP9_3Guarded(t *testing.T) {
	const (
		least   = api.GuardLeast
		atMost  = api.GuardMost
		is      = api.GuardIs
		version = api.GuardVersion
	)
	for _, x := range []struct {
		guards []api.Guard
		want   bool
	}{
		{nil, true},
		{[]api.Guard{{Kind: least, N: 11}}, true},
		{[]api.Guard{{Kind: least, N: 12}}, true},
		{[]api.Guard{{Kind: least, N: 13}}, false},
		{[]api.Guard{{Kind: atMost, N: 13}}, true},
		{[]api.Guard{{Kind: atMost, N: 12}}, true},
		{[]api.Guard{{Kind: atMost, N: 11}}, false},
		{[]api.Guard{{Kind: is, N: 11}}, false},
		{[]api.Guard{{Kind: is, N: 12}}, true},
		{[]api.Guard{{Kind: is, N: 13}}, false},
		{[]api.Guard{{Kind: is, N: -12}}, false},
		{[]api.Guard{{Kind: least, What: 1, N: -2}, {Kind: atMost, What: 1, N: -2}, {Kind: is, What: 1, N: -2}}, true},
		{[]api.Guard{{Kind: least, What: 1, N: -1}}, false},
		{[]api.Guard{{Kind: atMost, What: 1, N: -3}}, false},
		{[]api.Guard{{Kind: is, What: 2, N: 7}, {Kind: least, What: 2, N: -api.MaxBound}, {Kind: atMost, What: 2, N: api.MaxBound}}, true},
		{[]api.Guard{{Kind: version, N: 0}}, true},
		{[]api.Guard{{Kind: version, N: 1}}, false},
		{[]api.Guard{{Kind: version, N: 5}}, false},
		{[]api.Guard{{Kind: version, What: 1, N: api.MaxNumber - 1}, {Kind: version, What: 2, N: api.MaxNumber}}, true},
		{[]api.Guard{{Kind: version, What: 1, N: api.MaxNumber}}, false},
		{[]api.Guard{{Kind: version, What: 1, N: api.MaxNumber - 2}}, false},
		{[]api.Guard{{Kind: version, What: 2, N: 9}}, false},
		{[]api.Guard{{Kind: is, N: 12}, {Kind: least, N: 13}}, false},
		{[]api.Guard{{Kind: least, N: 13}, {Kind: is, N: 12}}, false},
		{append(slices.Repeat([]api.Guard{{Kind: is, N: 12}}, 3000), api.Guard{Kind: version, What: 1}), false},
		{slices.Repeat([]api.Guard{{Kind: is, N: 12}}, 3000), true},
	} {
		if got := rule.Guarded(store(), x.guards); got != x.want {
			t.Errorf("%v: %v", x.guards, got)
		}
	}
}

func TestP9_3Open(t *testing.T) {
	for _, x := range []struct {
		sets []api.Set
		want bool
	}{
		{nil, true},
		{[]api.Set{{Price: 0}}, true},
		{[]api.Set{{Price: 1}}, true},
		{[]api.Set{{Price: 2}}, false},
		{[]api.Set{{Price: 1}, {Price: 0}}, true},
		{[]api.Set{{Price: 2}, {Price: 0}}, false},
		{[]api.Set{{Price: 0}, {Price: 2}}, false},
		{[]api.Set{{Price: 0, Version: api.MaxNumber, N: api.MaxAmount}}, true},
		{[]api.Set{{Price: 2, Version: -1}}, false},
		{slices.Repeat([]api.Set{{Price: 1}}, 3000), true},
	} {
		if got := rule.Open(store(), x.sets); got != x.want {
			t.Errorf("%v: %v", x.sets, got)
		}
	}
}

func TestP9_4Examples(t *testing.T) {
	nine := []api.Set{{Price: 0, Version: 4, N: 9}}
	to9 := func(version int) api.Set { return api.Set{Version: version, N: 9} }
	is7, version2 := api.Guard{Kind: api.GuardIs, N: 7}, api.Guard{Kind: api.GuardVersion, N: 2}
	look(t, shelf(), []judged{
		{"sure, as many as are held", sure(0, l(-2)...), answer{outcome: api.Applied, made: l(-2)}},
		{"sure, one more", sure(0, l(-3)...), answer{outcome: api.Rejected}},
		{"sure, up", sure(0, l(1)...), answer{outcome: api.Rejected}},
		{"all that is free", write(l(-4)...), answer{outcome: api.Applied, made: l(-4)}},
		{"one more", write(l(-5)...), answer{outcome: api.Rejected}},
		{"one more, clamped", merged(write(l(-5)...), api.MergeClamp), answer{outcome: api.Merged, made: l(-4)}},
		{"one more, other", merged(write(l(-5)...), api.MergeOther, l(-1)...), answer{outcome: api.Merged, made: l(-1)}},
		{"one more, forced", merged(write(l(-5)...), api.MergeForce), answer{outcome: api.Rejected}},
		{"there and back, clamped", merged(write(l(-3, 9, -9)...), api.MergeClamp), answer{outcome: api.Merged, made: l(-3, 7, -8)}},
		{"guarded", guarded(write(l(-1)...), is7), answer{outcome: api.Rejected}},
		{"guarded, clamped", merged(guarded(write(l(-1)...), is7), api.MergeClamp), answer{outcome: api.Merged, made: l(-1)}},
		{"guarded, forced", merged(guarded(write(l(-1)...), is7), api.MergeForce), answer{outcome: api.Merged, made: l(-1)}},
		{"set", guarded(setting(write(), to9(-1)), api.Guard{Kind: api.GuardVersion, N: 3}), answer{outcome: api.Applied, sets: nine}},
		{"set, guarded", guarded(setting(write(), to9(-1)), version2), answer{outcome: api.Rejected}},
		{"set, clamped, version 2", merged(guarded(setting(write(), to9(2)), version2), api.MergeClamp), answer{outcome: api.Rejected}},
		{"set, clamped, version 3", merged(guarded(setting(write(), to9(3)), version2), api.MergeClamp), answer{outcome: api.Merged, sets: nine}},
		{"set, clamped, any version", merged(guarded(setting(write(), to9(-1)), version2), api.MergeClamp), answer{outcome: api.Merged, sets: nine}},
		{"set, forced", merged(guarded(setting(write(), to9(-1)), version2), api.MergeForce), answer{outcome: api.Merged, sets: nine}},
		{"ask down", right(api.ActAsk, 0, 0, api.Down, 9), answer{outcome: api.Granted, n: 4}},
		{"ask up", right(api.ActAsk, 0, 0, api.Up, 9), answer{outcome: api.Granted, n: 4}},
		{"give 2", right(api.ActGive, 0, 0, api.Down, 2), answer{outcome: api.Done}},
		{"give 3", right(api.ActGive, 0, 0, api.Down, 3), answer{outcome: api.Rejected}},
		{"a yield that is not owed", yield(0, 0), answer{outcome: api.Rejected}},
	})
}

func TestP9_4SureWrites(t *testing.T) {
	both := []api.Line{{Counter: 1, Change: -1}, {Change: -2}, {Change: -3}}
	look(t, store(), []judged{
		{"in their order", sure(1, both...), answer{outcome: api.Applied, made: both}},
		{"another till's", sure(2, both...), answer{outcome: api.Rejected}},
		{"one of them lacks", sure(1, append(slices.Clone(both), l(-1)...)...), answer{outcome: api.Rejected}},
		{"by free rights alone", sure(2, l(-1)...), answer{outcome: api.Rejected}},
		{"more than is free", sure(0, l(-4, 2)...), answer{outcome: api.Applied, made: l(-4, 2)}},
		{"not by what its own lines make", sure(1, l(-5, 1)...), answer{outcome: api.Rejected}},
	})
}

func TestP9_4OtherWrites(t *testing.T) {
	fits, tooMuch := []api.Line{{Change: -3}, {Counter: 1, Change: 7}}, l(-4)
	holds, fails := api.Guard{Kind: api.GuardIs, N: 12}, api.Guard{Kind: api.GuardIs, N: 11}
	open := []api.Set{{Price: 1, Version: -1, N: 77}, {Price: 0, Version: -1, N: 0}}
	raised := []api.Set{{Price: 1, Version: api.MaxNumber, N: 77}, {Price: 0, Version: 1, N: 0}}
	shut := []api.Set{{Price: 0, Version: -1, N: 8}, {Price: 2, Version: -1, N: 8}}
	for _, kind := range []int{api.MergeNone, api.MergeClamp, api.MergeOther, api.MergeForce} {
		var other []api.Line
		if kind == api.MergeOther {
			other = l(-1)
		}
		look(t, store(), []judged{
			{fmt.Sprint("as it stands, merge ", kind), merged(guarded(setting(write(fits...), open...), holds), kind, other...), answer{outcome: api.Applied, made: fits, sets: raised}},
			{fmt.Sprint("lines alone, merge ", kind), merged(write(fits...), kind, other...), answer{outcome: api.Applied, made: fits}},
			{fmt.Sprint("settings alone, merge ", kind), merged(setting(write(), open...), kind, other...), answer{outcome: api.Applied, sets: raised}},
		})
	}
	look(t, store(), []judged{
		{"a guard fails", guarded(setting(write(fits...), open...), holds, fails), answer{outcome: api.Rejected}},
		{"lines that are too much", guarded(setting(write(tooMuch...), open...), holds), answer{outcome: api.Rejected}},
		{"a price that is not open", guarded(setting(write(fits...), shut...), holds), answer{outcome: api.Rejected}},
		{"held rights are not free", write(l(-7)...), answer{outcome: api.Rejected}},
	})
}

func TestP9_4Clamp(t *testing.T) {
	fails := api.Guard{Kind: api.GuardLeast, N: 13}
	clamp := func(lines []api.Line, sets ...api.Set) api.Act {
		return merged(setting(write(lines...), sets...), api.MergeClamp)
	}
	look(t, store(), []judged{
		{"cut", clamp(l(-9)), answer{outcome: api.Merged, made: l(-3)}},
		{"the first takes all", clamp(l(-2, -2, -2)), answer{outcome: api.Merged, made: l(-2, -1)}},
		{"cut to 0 and filled again", clamp(l(-3, -1, 2, -9)), answer{outcome: api.Merged, made: l(-3, 2, -2)}},
		{"up", clamp(l(5, 5, -1, 5)), answer{outcome: api.Merged, made: l(5, 1, -1, 1)}},
		{"counters each by itself", clamp([]api.Line{{Counter: 1, Change: -1}, {Change: -4}, {Counter: 1, Change: 1}, {Counter: 2, Change: 1}, {Counter: 1, Change: -3}}),
			answer{outcome: api.Merged, made: []api.Line{{Change: -3}, {Counter: 1, Change: 1}, {Counter: 1, Change: -1}}}},
		{"nothing is left", clamp([]api.Line{{Counter: 2, Change: -1}, {Counter: 2, Change: 1}, {Counter: 1, Change: -1}}), answer{outcome: api.Rejected}},
		{"greatest amounts", clamp([]api.Line{{Counter: 1, Change: api.MaxAmount}, {Counter: 1, Change: -api.MaxAmount}}),
			answer{outcome: api.Merged, made: []api.Line{{Counter: 1, Change: 7}, {Counter: 1, Change: -7}}}},
		{"guards are not asked", guarded(clamp(l(-2, 9)), fails), answer{outcome: api.Merged, made: l(-2, 8)}},
		{"of settings those of their version that are open", clamp(l(-4),
			api.Set{Price: 2, Version: api.MaxNumber, N: 1}, api.Set{Price: 1, Version: api.MaxNumber - 1, N: 2}, api.Set{Price: 0, Version: 1, N: 3}),
			answer{outcome: api.Merged, made: l(-3), sets: []api.Set{{Price: 1, Version: api.MaxNumber, N: 2}}}},
		{"any version, in their order", clamp(l(-4), api.Set{Price: 1, Version: -1, N: 2}, api.Set{Price: 2, Version: -1, N: 4}, api.Set{Price: 0, Version: 0, N: 3}),
			answer{outcome: api.Merged, made: l(-3), sets: []api.Set{{Price: 1, Version: api.MaxNumber, N: 2}, {Price: 0, Version: 1, N: 3}}}},
		{"settings without a line", guarded(clamp(nil, api.Set{Price: 0, N: 3}), fails), answer{outcome: api.Merged, sets: []api.Set{{Price: 0, Version: 1, N: 3}}}},
		{"settings, and lines cut to 0", clamp([]api.Line{{Counter: 2, Change: 1}}, api.Set{Price: 0, N: 3}), answer{outcome: api.Merged, sets: []api.Set{{Price: 0, Version: 1, N: 3}}}},
		{"neither", guarded(clamp(nil, api.Set{Price: 0, Version: 1, N: 3}, api.Set{Price: 2, Version: -1}), fails), answer{outcome: api.Rejected}},
		{"its version is not asked where nothing hinders", clamp(l(-1), api.Set{Price: 0, Version: 7, N: 3}), answer{outcome: api.Applied, made: l(-1), sets: []api.Set{{Price: 0, Version: 1, N: 3}}}},
	})
}

func TestP9_4OtherAndForce(t *testing.T) {
	fails := api.Guard{Kind: api.GuardMost, What: 1, N: -3}
	open, shut := api.Set{Price: 1, Version: -1, N: 77}, api.Set{Price: 2, Version: -1, N: 8}
	other := []api.Line{{Change: -3}, {Counter: 1, Change: 7}}
	look(t, store(), []judged{
		{"other: no setting is made", merged(guarded(setting(write(l(-1)...), open), fails), api.MergeOther, other...), answer{outcome: api.Merged, made: other}},
		{"other: where a price is not open", merged(setting(write(l(-1)...), shut), api.MergeOther, other...), answer{outcome: api.Merged, made: other}},
		{"other: where lines are too much", merged(write(l(-4)...), api.MergeOther, other...), answer{outcome: api.Merged, made: other}},
		{"other: too much, not cut", merged(write(l(-4)...), api.MergeOther, l(-2, 1, -2)...), answer{outcome: api.Rejected}},
		{"force: lines and settings", merged(guarded(setting(write(other...), open), fails), api.MergeForce), answer{outcome: api.Merged, made: other, sets: []api.Set{{Price: 1, Version: api.MaxNumber, N: 77}}}},
		{"force: lines that are too much", merged(guarded(setting(write(l(-4)...), open), fails), api.MergeForce), answer{outcome: api.Rejected}},
		{"force: a price that is not open", merged(guarded(setting(write(l(-1)...), open, shut), fails), api.MergeForce), answer{outcome: api.Rejected}},
		{"none", guarded(setting(write(l(-1)...), open), fails), answer{outcome: api.Rejected}},
	})
}

func TestP9_4RightsThatMove(t *testing.T) {
	granted := func(n int64) answer { return answer{outcome: api.Granted, n: n} }
	done, rejected := answer{outcome: api.Done}, answer{outcome: api.Rejected}
	look(t, store(), []judged{
		{"ask less than is free", right(api.ActAsk, 1, 0, api.Up, 5), granted(5)},
		{"ask all", right(api.ActAsk, 1, 0, api.Up, 6), granted(6)},
		{"ask more", right(api.ActAsk, 1, 0, api.Up, api.MaxAmount), granted(6)},
		{"ask of another counter", right(api.ActAsk, 2, 1, api.Up, 9), granted(7)},
		{"ask where none is free", right(api.ActAsk, 2, 1, api.Down, 9), granted(0)},
		{"give all", right(api.ActGive, 1, 0, api.Down, 5), done},
		{"give one more", right(api.ActGive, 1, 0, api.Down, 6), rejected},
		{"give of the other way", right(api.ActGive, 1, 0, api.Up, 1), rejected},
		{"give of another counter", right(api.ActGive, 2, 1, api.Down, 2), done},
		{"pass all", pass(0, 1, 0, api.Down, 4), done},
		{"pass to one that holds none", pass(0, 2, 0, api.Up, 2), done},
		{"pass one more", pass(0, 1, 0, api.Down, 5), rejected},
		{"pass what To holds", pass(2, 1, 0, api.Down, 1), rejected},
	})
}

// As long as the bounds are what they are, no right state has so many rights that this matters; the words stand nevertheless.
func TestP9_4MostHeld(t *testing.T) {
	s := api.State{Pools: []api.Pool{{Free: [2]int64{9, 9}, Held: [][2]int64{{api.MaxHeld - 2, 0}, {5, 5}}}}}
	look(t, s, []judged{
		{"ask up to MaxHeld", right(api.ActAsk, 0, 0, api.Down, 9), answer{outcome: api.Granted, n: 2}},
		{"of the other way", right(api.ActAsk, 0, 0, api.Up, 9), answer{outcome: api.Granted, n: 9}},
		{"pass up to MaxHeld", pass(1, 0, 0, api.Down, 2), answer{outcome: api.Done}},
		{"pass above it", pass(1, 0, 0, api.Down, 3), answer{outcome: api.Rejected}},
		{"pass of the other way", pass(1, 0, 0, api.Up, 3), answer{outcome: api.Done}},
	})
	s.Pools[0].Held[0][api.Down] = api.MaxHeld
	look(t, s, []judged{
		{"ask at MaxHeld", right(api.ActAsk, 0, 0, api.Down, 9), answer{outcome: api.Granted}},
		{"pass at MaxHeld", pass(1, 0, 0, api.Down, 1), answer{outcome: api.Rejected}},
		{"give at MaxHeld", right(api.ActGive, 0, 0, api.Down, api.MaxAmount), answer{outcome: api.Done}},
		{"pass from it", pass(0, 1, 0, api.Down, api.MaxAmount), answer{outcome: api.Done}},
	})
}

func TestP9_4Yields(t *testing.T) {
	five, one := api.Right{N: 5}, api.Right{Counter: 1, N: 1}
	done, rejected := answer{outcome: api.Done}, answer{outcome: api.Rejected}
	look(t, store(), []judged{
		{"all", yield(1, 2, five, one), done},
		{"some", yield(1, 2, api.Right{N: 4}), done},
		{"none", yield(1, 2), done},
		{"an earlier generation", yield(1, 1, five, one), rejected},
		{"a later one", yield(1, 3, five, one), rejected},
		{"of a till that owes none", yield(0, 1, api.Right{N: 4}), rejected},
		{"of a till that was never fenced", yield(2, 1), rejected},
		{"more of the first", yield(1, 2, api.Right{N: 6}, one), rejected},
		{"more of the last", yield(1, 2, five, api.Right{Counter: 1, N: 2}), rejected},
		{"of the other way", yield(1, 2, api.Right{Way: api.Up, N: 1}), rejected},
	})
}

// What an act's number is, and whether it is its till's next, is not looked at.
func TestP9_4NumbersAreNotLookedAt(t *testing.T) {
	acts := []api.Act{write(l(-4)...), sure(0, l(-2)...), right(api.ActAsk, 0, 0, api.Up, 9), right(api.ActGive, 0, 0, api.Down, 2), yield(0, 1)}
	for _, a := range acts {
		want := judge(shelf(), a)
		for _, number := range []uint64{0, 1, 2, api.MaxNumber, api.MaxNumber + 1, 1<<64 - 1} {
			a.Number = number
			if got := judge(shelf(), a); !got.same(want) {
				t.Errorf("%+v: %+v, want %+v", a, got, want)
			}
		}
	}
}
