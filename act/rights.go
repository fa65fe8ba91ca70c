package act

import (
	"cmp"

	"till/api"
	"till/code"
)

// oneRight is what acts of a single right have in common.
type oneRight struct{}

func (oneRight) rest(a api.Act) api.Act {
	a.Right = api.Right{}
	return a
}

func (oneRight) check(api.Config, api.Act) api.Errno { return api.OK }

func (oneRight) encode(w *code.Writer, a api.Act) { writeRight(w, a.Right) }

func (oneRight) decode(r reader, a *api.Act) { a.Right = readRight(r) }

// settled is what acts have in common that are done or rejected, and of which an entry tells no more.
type settled struct{}

func (settled) endMayBe(c api.Config, e api.Entry) bool {
	return (e.Outcome == api.Done || e.Outcome == api.Rejected) && e.N == 0 && madeNothing(e)
}

func (settled) encodeEnd(*code.Writer, api.Entry) {}

func (settled) decodeEnd(reader, *api.Entry) {}

// askKind is of acts that ask for rights.
type askKind struct{ oneRight }

func (askKind) endMayBe(c api.Config, e api.Entry) bool {
	return e.Outcome == api.Granted && within(e.N, 0, e.Act.Right.N) && madeNothing(e)
}

func (askKind) encodeEnd(w *code.Writer, e api.Entry) { w.Var(uint64(e.N)) }

func (askKind) decodeEnd(r reader, e *api.Entry) { e.N = int64(r.number(api.MaxAmount)) }

// giveKind is of acts that give rights back.
type giveKind struct {
	oneRight
	settled
}

// passKind is of acts that hand rights to another till.
type passKind struct {
	oneRight
	settled
}

func (k passKind) rest(a api.Act) api.Act {
	a.To = 0
	return k.oneRight.rest(a)
}

func (passKind) check(c api.Config, a api.Act) api.Errno {
	if !isTill(c, a.To) || a.To == a.Till {
		return api.ErrActRight
	}
	return api.OK
}

func (k passKind) encode(w *code.Writer, a api.Act) {
	k.oneRight.encode(w, a)
	writeSmall(w, a.To)
}

func (k passKind) decode(r reader, a *api.Act) {
	k.oneRight.decode(r, a)
	a.To = r.small()
}

// yieldKind is of acts that give back all that a till holds.
type yieldKind struct{ settled }

func (yieldKind) rest(a api.Act) api.Act {
	a.Gen, a.Rights = 0, nil
	return a
}

func (yieldKind) check(c api.Config, a api.Act) api.Errno {
	if !within(a.Gen, 1, api.MaxNumber) || !rising(a.Rights) {
		return api.ErrActRight
	}
	return api.OK
}

func (yieldKind) encode(w *code.Writer, a api.Act) {
	w.Var(a.Gen)
	writeList(w, a.Rights, writeRight)
}

func (yieldKind) decode(r reader, a *api.Act) {
	a.Gen = r.number(api.MaxNumber)
	a.Rights = readList(r, readRight)
}

// rising tells whether rights stand by counter and then way, each once.
func rising(rights []api.Right) bool {
	for i := 1; i < len(rights); i++ {
		x, y := rights[i-1], rights[i]
		if cmp.Or(cmp.Compare(x.Counter, y.Counter), cmp.Compare(x.Way, y.Way)) >= 0 {
			return false
		}
	}
	return true
}

func rightsMayBe(c api.Config, rights []api.Right, most int64) bool {
	for _, x := range rights {
		if !isCounter(c, x.Counter) || !within(x.Way, api.Down, api.Up) || !within(x.N, 1, most) {
			return false
		}
	}
	return true
}

func writeRight(w *code.Writer, x api.Right) {
	writeSmall(w, x.Counter)
	writeSmall(w, x.Way)
	w.Var(uint64(x.N))
}

func readRight(r reader) api.Right {
	counter, way := r.small(), r.small()
	return api.Right{Counter: counter, Way: way, N: int64(r.number(api.MaxHeld))}
}
