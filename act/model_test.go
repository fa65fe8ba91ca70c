package act_test

import (
	"fmt"
	"math/big"
	"math/rand"

	"till/api"
)

// same tells whether two values are the same plain data; nil and empty lists are one.
func same(a, b any) bool { return fmt.Sprintf("%+v", a) == fmt.Sprintf("%+v", b) }

// modelVar is a number's shortest form, by a number of any size.
func modelVar(n *big.Int) []byte {
	rest, part := new(big.Int).Set(n), new(big.Int)
	var out []byte
	for {
		rest.DivMod(rest, big.NewInt(128), part)
		if rest.Sign() == 0 {
			return append(out, byte(part.Int64()))
		}
		out = append(out, byte(part.Int64())+128)
	}
}

func plainVar(n uint64) []byte { return modelVar(new(big.Int).SetUint64(n)) }

func signedVar(n int64) []byte {
	twice := new(big.Int).Mul(big.NewInt(n), big.NewInt(2))
	if n < 0 {
		twice.Sub(twice.Neg(twice), big.NewInt(1))
	}
	return modelVar(twice)
}

func join(parts ...[]byte) []byte {
	var out []byte
	for _, p := range parts {
		out = append(out, p...)
	}
	return out
}

func small(n ...int) []byte {
	var out []byte
	for _, x := range n {
		out = append(out, byte(x))
	}
	return out
}

func modelLines(lines []api.Line) []byte {
	out := small(len(lines))
	for _, x := range lines {
		out = join(out, small(x.Counter), signedVar(x.Change))
	}
	return out
}

func modelRight(x api.Right) []byte { return join(small(x.Counter, x.Way), plainVar(uint64(x.N))) }

// modelAct is an act's bytes by the chapter, whether it may be or not.
func modelAct(a api.Act) []byte {
	out := join(small(a.Kind, a.Till), plainVar(a.Number))
	switch a.Kind {
	case api.ActWrite:
		flag := 0
		if a.Sure {
			flag = 1
		}
		out = join(out, small(flag), modelLines(a.Lines), small(len(a.Guards)))
		for _, x := range a.Guards {
			out = join(out, small(x.Kind, x.What), signedVar(x.N))
		}
		out = join(out, small(len(a.Sets)))
		for _, x := range a.Sets {
			out = join(out, small(x.Price), plainVar(uint64(x.Version+1)), plainVar(uint64(x.N)))
		}
		return join(out, small(a.Merge.Kind), modelLines(a.Merge.Other))
	case api.ActPass:
		return join(out, modelRight(a.Right), small(a.To))
	case api.ActYield:
		out = join(out, plainVar(a.Gen), small(len(a.Rights)))
		for _, x := range a.Rights {
			out = join(out, modelRight(x))
		}
		return out
	}
	return join(out, modelRight(a.Right))
}

func modelEntry(e api.Entry) []byte {
	out := plainVar(e.Position)
	if e.Act.Kind == api.ActNone {
		return join(out, small(0, e.Fence), plainVar(e.Gen))
	}
	out = join(out, modelAct(e.Act), small(e.Outcome))
	switch e.Act.Kind {
	case api.ActWrite:
		out = join(out, modelLines(e.Made), small(len(e.Sets)))
		for _, x := range e.Sets {
			out = join(out, small(x.Price), plainVar(uint64(x.Version)), plainVar(uint64(x.N)))
		}
	case api.ActAsk:
		out = join(out, plainVar(uint64(e.N)))
	}
	return out
}

// chance draws what may be, the edges often.
type chance struct{ *rand.Rand }

func (r chance) number(least, most int64) int64 {
	switch r.Intn(4) {
	case 0:
		return least
	case 1:
		return most
	case 2:
		return least + r.Int63n(min(most-least, 300)+1)
	}
	return least + r.Int63n(most-least+1)
}

func (r chance) lines(c api.Config, least int) []api.Line {
	var out []api.Line
	for range least + r.Intn(api.MaxLines+1-least) {
		change := r.number(1, api.MaxAmount)
		if r.Intn(2) == 0 {
			change = -change
		}
		out = append(out, api.Line{Counter: r.Intn(len(c.Counters)), Change: change})
	}
	return out
}

func (r chance) guards(c api.Config) []api.Guard {
	var out []api.Guard
	for range r.Intn(api.MaxGuards + 1) {
		g := api.Guard{Kind: 1 + r.Intn(3), What: r.Intn(len(c.Counters)), N: r.number(-api.MaxBound, api.MaxBound)}
		if len(c.Prices) > 0 && r.Intn(4) == 0 {
			g = api.Guard{Kind: api.GuardVersion, What: r.Intn(len(c.Prices)), N: r.number(0, api.MaxNumber)}
		}
		out = append(out, g)
	}
	return out
}

func (r chance) sets(c api.Config, version func() int) []api.Set {
	var out []api.Set
	for _, price := range r.Perm(len(c.Prices))[:r.Intn(min(len(c.Prices), api.MaxSets)+1)] {
		out = append(out, api.Set{Price: price, Version: version(), N: r.number(0, api.MaxAmount)})
	}
	return out
}

func (r chance) right(c api.Config, most int64) api.Right {
	return api.Right{Counter: r.Intn(len(c.Counters)), Way: r.Intn(2), N: r.number(1, most)}
}

func (r chance) write(c api.Config) api.Act {
	if r.Intn(4) == 0 {
		return api.Act{Sure: true, Lines: r.lines(c, 1)}
	}
	a := api.Act{Guards: r.guards(c), Merge: api.Merge{Kind: r.Intn(4)}}
	if a.Merge.Kind == api.MergeOther {
		a.Merge.Other = r.lines(c, 1)
	}
	a.Sets = r.sets(c, func() int {
		if a.Merge.Kind == api.MergeClamp {
			return int(r.number(-1, api.MaxNumber))
		}
		return -1
	})
	least := 1
	if len(a.Sets) > 0 {
		least = 0
	}
	a.Lines = r.lines(c, least)
	return a
}

func (r chance) act(c api.Config) api.Act {
	kind := 1 + r.Intn(5)
	if c.Tills == 1 && kind == api.ActPass {
		kind = api.ActGive
	}
	var a api.Act
	switch kind {
	case api.ActWrite:
		a = r.write(c)
	case api.ActYield:
		a.Gen = uint64(r.number(1, api.MaxNumber))
		for i := range 2 * len(c.Counters) {
			if r.Intn(3) > 0 {
				a.Rights = append(a.Rights, api.Right{Counter: i / 2, Way: i % 2, N: r.number(1, api.MaxHeld)})
			}
		}
	default:
		a.Right = r.right(c, api.MaxAmount)
	}
	a.Kind, a.Till, a.Number = kind, r.Intn(c.Tills), uint64(r.number(1, api.MaxNumber))
	if kind == api.ActPass {
		a.To = (a.Till + 1 + r.Intn(c.Tills-1)) % c.Tills
	}
	return a
}

func (r chance) entry(c api.Config) api.Entry {
	e := api.Entry{Position: uint64(r.number(1, api.MaxLog))}
	if r.Intn(8) == 0 {
		e.Fence, e.Gen = r.Intn(c.Tills), uint64(r.number(1, api.MaxNumber))
		return e
	}
	e.Act = r.act(c)
	switch e.Act.Kind {
	case api.ActWrite:
		e.Made, e.Sets = r.lines(c, 0), r.sets(c, func() int { return int(r.number(1, api.MaxNumber)) })
		e.Outcome = api.Applied + r.Intn(2)
		if len(e.Made)+len(e.Sets) == 0 {
			e.Outcome = api.Rejected
		}
	case api.ActAsk:
		e.Outcome, e.N = api.Granted, r.number(0, e.Act.Right.N)
	default:
		e.Outcome = []int{api.Done, api.Rejected}[r.Intn(2)]
	}
	return e
}

// hurt makes other bytes of some: a few changed, put in, left out, or repeated.
func (r chance) hurt(b []byte) []byte {
	out := append([]byte(nil), b...)
	for range 1 + r.Intn(2) {
		at := r.Intn(len(out) + 1)
		switch r.Intn(5) {
		case 0:
			out = append(out[:at], append([]byte{byte(r.Intn(256))}, out[at:]...)...)
		case 1:
			out = out[:at]
		case 2:
			if at < len(out) {
				out = append(out[:at], out[at+1:]...)
			}
		case 3:
			if at < len(out) {
				out[at] ^= 1 << r.Intn(8)
			}
		case 4:
			if at < len(out) {
				out[at] = byte(r.Intn(10))
			}
		}
	}
	return out
}

// parser reads as the chapter writes; bad is set at the first thing that is not there, and stays.
type parser struct {
	b   []byte
	bad bool
}

func (p *parser) small() int {
	if len(p.b) == 0 {
		p.bad = true
	}
	if p.bad {
		return 0
	}
	n := int(p.b[0])
	p.b = p.b[1:]
	return n
}

// num reads a number that has at most 63 bits; no greater one may be anywhere.
func (p *parser) num() int64 {
	n := new(big.Int)
	for i := 0; ; i++ {
		c := p.small()
		if p.bad || i > 9 || i > 0 && c == 0 {
			p.bad = true
			return 0
		}
		n.Or(n, new(big.Int).Lsh(big.NewInt(int64(c%128)), uint(7*i)))
		if c < 128 {
			break
		}
	}
	if !n.IsInt64() {
		p.bad = true
		return 0
	}
	return n.Int64()
}

func (p *parser) signed() int64 {
	n := p.num()
	if n%2 == 1 {
		return -(n + 1) / 2
	}
	return n / 2
}

func parsed[T any](p *parser, one func() T) []T {
	var out []T
	for range p.small() {
		if p.bad {
			return nil
		}
		out = append(out, one())
	}
	return out
}

func (p *parser) line() api.Line {
	var x api.Line
	x.Counter = p.small()
	x.Change = p.signed()
	return x
}

func (p *parser) right() api.Right {
	var x api.Right
	x.Counter = p.small()
	x.Way = p.small()
	x.N = p.num()
	return x
}

func (p *parser) guard() api.Guard {
	var x api.Guard
	x.Kind = p.small()
	x.What = p.small()
	x.N = p.signed()
	return x
}

func (p *parser) set() api.Set {
	var x api.Set
	x.Price = p.small()
	x.Version = int(p.num())
	x.N = p.num()
	return x
}

func (p *parser) act(kind int) api.Act {
	a := api.Act{Kind: kind}
	a.Till = p.small()
	a.Number = uint64(p.num())
	switch kind {
	case api.ActWrite:
		flag := p.small()
		a.Sure, p.bad = flag == 1, p.bad || flag > 1
		a.Lines, a.Guards, a.Sets = parsed(p, p.line), parsed(p, p.guard), parsed(p, p.set)
		for i := range a.Sets {
			a.Sets[i].Version--
		}
		a.Merge.Kind = p.small()
		a.Merge.Other = parsed(p, p.line)
	case api.ActAsk, api.ActGive:
		a.Right = p.right()
	case api.ActPass:
		a.Right = p.right()
		a.To = p.small()
	case api.ActYield:
		a.Gen = uint64(p.num())
		a.Rights = parsed(p, p.right)
	default:
		p.bad = true
	}
	return a
}

func (p *parser) entry() api.Entry {
	e := api.Entry{Position: uint64(p.num())}
	kind := p.small()
	if kind == 0 {
		e.Fence = p.small()
		e.Gen = uint64(p.num())
		return e
	}
	e.Act = p.act(kind)
	e.Outcome = p.small()
	switch kind {
	case api.ActWrite:
		e.Made, e.Sets = parsed(p, p.line), parsed(p, p.set)
	case api.ActAsk:
		e.N = p.num()
	}
	return e
}
