package rule

import (
	"cmp"
	"iter"

	"till/api"
	"till/sum"
)

// kind is what rights are told apart by.
type kind struct {
	counter, way int
}

func kindOf(x api.Right) kind { return kind{counter: x.Counter, way: x.Way} }

func byCounterAndWay(x, y kind) int {
	return cmp.Or(cmp.Compare(x.counter, y.counter), cmp.Compare(x.way, y.way))
}

func (k kind) other() kind {
	k.way = api.Up - k.way
	return k
}

// line is the change that so many rights of the kind allow.
func (k kind) line(amount int64) api.Line {
	if k.way == api.Down {
		amount = -amount
	}
	return api.Line{Counter: k.counter, Change: amount}
}

// each goes through lines: the counter and way of each, and its amount.
func each(lines []api.Line) iter.Seq2[kind, int64] {
	return func(yield func(kind, int64) bool) {
		for _, x := range lines {
			way := api.Up
			if x.Change < 0 {
				way = api.Down
			}
			if !yield(kind{counter: x.Counter, way: way}, int64(sum.Amount(x.Change))) {
				return
			}
		}
	}
}

// at tells an item of a list, if there is one: a state may lack what an act names, and that is no reason to panic.
func at[T any](list []T, i int) (T, bool) {
	if i < 0 || i >= len(list) {
		var none T
		return none, false
	}
	return list[i], true
}

// free and held tell 0 of rights that the state does not have at all.
func free(s api.State, k kind) int64 {
	pool, _ := at(s.Pools, k.counter)
	n, _ := at(pool.Free[:], k.way)
	return n
}

func held(s api.State, till int, k kind) int64 {
	pool, _ := at(s.Pools, k.counter)
	ways, _ := at(pool.Held, till)
	n, _ := at(ways[:], k.way)
	return n
}

// heldRoom is how many rights of a kind a till may hold beside those that it holds.
func heldRoom(s api.State, till int, k kind) int64 { return api.MaxHeld - held(s, till, k) }

func has(s api.State, till int, x api.Right) bool { return held(s, till, kindOf(x)) >= x.N }

func hasAll(s api.State, till int, rights []api.Right) bool {
	for _, x := range rights {
		if !has(s, till, x) {
			return false
		}
	}
	return true
}

// owes tells whether a till owes a yield in that generation.
func owes(s api.State, till int, gen uint64) bool {
	now, known := at(s.Gen, till)
	owed, _ := at(s.Owed, till)
	return known && now == gen && owed
}

func grant(s api.State, till int, x api.Right) int64 {
	k := kindOf(x)
	return min(x.N, free(s, k), heldRoom(s, till, k))
}
