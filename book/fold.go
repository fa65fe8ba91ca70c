package book

import (
	"till/act"
	"till/api"
)

// Fold tells the state behind an entry.
func Fold(c api.Config, s api.State, e api.Entry) (api.State, api.Errno) {
	if errno := check(c, s, e); errno != api.OK {
		return api.State{}, errno
	}
	s = copyOfState(s)
	s.Position = e.Position
	if e.Act.Kind == api.ActNone {
		s.Gen[e.Fence], s.Owed[e.Fence] = e.Gen, true
		return s, api.OK
	}
	s.Last[e.Act.Till] = e.Act.Number
	carryOut(s, e)
	return s, api.OK
}

// check tells why an entry does not fold. A state that lacks lists has no next entry at all.
func check(c api.Config, s api.State, e api.Entry) api.Errno {
	switch {
	case !hasLists(c, s) || e.Position != s.Position+1 || e.Position > api.MaxNumber:
		return api.ErrBookOrder
	case e.Act.Kind == api.ActNone:
		if fence, ok := Fence(c, s, e.Fence); !ok || !sameEntry(e, fence) {
			return api.ErrBookFence
		}
	case act.Check(c, e.Act) != api.OK || e.Act.Number != s.Last[e.Act.Till]+1:
		return api.ErrBookAct
	case !sameEntry(e, Next(c, s, e.Act)):
		return api.ErrBookOutcome
	}
	return api.OK
}

// carryOut does to a state what became of an entry's act. It writes into the state's lists, so they must be the caller's own.
func carryOut(s api.State, e api.Entry) {
	free, own := freeOnes(s), heldBy(s, e.Act.Till)
	switch e.Outcome {
	case api.Applied, api.Merged:
		from := free
		if e.Act.Sure {
			from = own
		}
		for _, x := range e.Made {
			change(s, x, from)
		}
		for _, x := range e.Sets {
			s.Prices[x.Price] = api.Priced{Price: x.N, Version: int64(x.Version)}
		}
	case api.Granted:
		granted := e.Act.Right
		granted.N = e.N
		move(granted, free, own)
	case api.Done:
		handOver(s, e.Act, own)
	}
}

// handOver carries out a give, a pass or a yield.
func handOver(s api.State, a api.Act, own fund) {
	switch a.Kind {
	case api.ActGive:
		move(a.Right, own, freeOnes(s))
	case api.ActPass:
		move(a.Right, own, heldBy(s, a.To))
	case api.ActYield:
		for _, x := range a.Rights {
			move(x, own, freeOnes(s))
		}
		s.Owed[a.Till] = false
	}
}

// fund is where rights are: it tells those of a counter, by way.
type fund func(counter int) *[2]int64

func freeOnes(s api.State) fund {
	return func(counter int) *[2]int64 { return &s.Pools[counter].Free }
}

func heldBy(s api.State, till int) fund {
	return func(counter int) *[2]int64 { return &s.Pools[counter].Held[till] }
}

func move(x api.Right, from, to fund) {
	from(x.Counter)[x.Way] -= x.N
	to(x.Counter)[x.Way] += x.N
}

// change uses rights of the change's way up; as many of the other way are free behind it, so that rights and slack stay together.
func change(s api.State, x api.Line, from fund) {
	way, other, n := api.Up, api.Down, x.Change
	if n < 0 {
		way, other, n = api.Down, api.Up, -n
	}
	from(x.Counter)[way] -= n
	s.Pools[x.Counter].Free[other] += n
	s.Pools[x.Counter].Value += x.Change
}
