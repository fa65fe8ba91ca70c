package act_test

import (
	"bytes"
	"fmt"
	"math"
	"math/rand"
	"testing"

	"till/act"
	"till/api"
)

func TestP8_6BodiesInBytes(t *testing.T) {
	for _, x := range []struct {
		body act.Body
		b    string
	}{
		{act.Body{Kind: act.BodyHello}, "01 00"},
		{act.Body{Kind: act.BodyHello, Position: 7}, "01 07"},
		{act.Body{Kind: act.BodyHello, Position: api.MaxLog}, "01 80 10"},
		{act.Body{Kind: act.BodyAct, Act: one(api.ActAsk, 0)}, "02 02 00 01 01 01 ac 02"},
		{act.Body{Kind: act.BodyEntry, Entry: fence()}, "03 08 00 01 02"},
		{act.Body{Kind: act.BodyEntry, Entry: granted()}, "03 07 02 00 01 01 01 ac 02 04 0a"},
	} {
		want := unhex(x.b)
		b, errno := act.Make(conf(), x.body)
		if errno != api.OK || !bytes.Equal(b, want) {
			t.Errorf("Make of %+v: % x, %d", x.body, b, errno)
		}
		body, errno := act.Read(conf(), want)
		if errno != api.OK || !same(body, x.body) {
			t.Errorf("Read of %s: %+v, %d", x.b, body, errno)
		}
	}
}

func TestP8_6BodiesThatMayNotBe(t *testing.T) {
	hello := act.Body{Kind: act.BodyHello}
	anAct := act.Body{Kind: act.BodyAct, Act: loose()}
	entry := act.Body{Kind: act.BodyEntry, Entry: applied()}
	bad := map[string]act.Body{}
	for name, x := range map[string]act.Body{"hello": hello, "act": anAct, "entry": entry} {
		for _, kind := range []int{act.BodyNone, -1, 4, 256 + x.Kind, math.MaxInt, math.MinInt} {
			y := x
			y.Kind = kind
			bad[fmt.Sprint(name, " of kind ", kind)] = y
		}
		for _, position := range []uint64{api.MaxLog + 1, math.MaxUint64} {
			y := x
			y.Position = position
			bad[fmt.Sprint(name, " at ", position)] = y
		}
	}
	anAct.Position = 1
	bad["act with a position"] = anAct
	anAct.Position = 0
	entry.Position = 1
	bad["entry with a position"] = entry
	entry.Position = 0
	for name, e := range entries() {
		x, y := hello, anAct
		x.Entry, y.Entry = e, e
		bad["hello with "+name], bad["act with "+name] = x, y
	}
	for name, fill := range map[string]func(e *api.Entry){
		"Position": func(e *api.Entry) { e.Position = 1 }, "Outcome": func(e *api.Entry) { e.Outcome = 1 }, "N": func(e *api.Entry) { e.N = 1 },
		"Made": func(e *api.Entry) { e.Made = make([]api.Line, 1) }, "Sets": func(e *api.Entry) { e.Sets = make([]api.Set, 1) },
		"Fence": func(e *api.Entry) { e.Fence = 1 }, "Gen": func(e *api.Entry) { e.Gen = 1 }, "Act": func(e *api.Entry) { e.Act.Till = 1 },
	} {
		x, y := hello, anAct
		fill(&x.Entry)
		fill(&y.Entry)
		bad["hello with Entry."+name], bad["act with Entry."+name] = x, y
	}
	for _, f := range fields() {
		x, y := hello, entry
		f.fill(&x.Act)
		f.fill(&y.Act)
		bad["hello with Act."+f.name], bad["entry with Act."+f.name] = x, y
	}
	for name, x := range bad {
		if b, errno := act.Make(conf(), x); errno != api.ErrActBytes || b != nil {
			t.Errorf("%s: % x, %d", name, b, errno)
		}
	}
}

func TestP8_6ErrorsOfActsAndEntries(t *testing.T) {
	for _, x := range []struct {
		body  act.Body
		errno api.Errno
	}{
		{act.Body{Kind: act.BodyAct}, api.ErrActKind},
		{act.Body{Kind: act.BodyAct, Act: write()}, api.ErrActLine},
		{act.Body{Kind: act.BodyAct, Act: one(api.ActPass, 0)}, api.ErrActRight},
		{act.Body{Kind: act.BodyAct, Act: one(api.ActPass, 0), Position: 1}, api.ErrActBytes},
		{act.Body{Kind: act.BodyEntry}, api.ErrActEntry},
		{act.Body{Kind: act.BodyEntry, Entry: done(write())}, api.ErrActLine},
		{act.Body{Kind: act.BodyEntry, Entry: done(sure())}, api.ErrActEntry},
		{act.Body{Kind: act.BodyEntry, Entry: done(write()), Act: sure()}, api.ErrActBytes},
	} {
		if b, errno := act.Make(conf(), x.body); errno != x.errno || b != nil {
			t.Errorf("%+v: % x, %d, want %d", x.body, b, errno, x.errno)
		}
	}
}

func TestP8_6EmptyListsAreNil(t *testing.T) {
	x := act.Body{Kind: act.BodyHello, Position: 7}
	x.Act.Lines, x.Act.Merge.Other = []api.Line{}, []api.Line{}
	x.Entry.Made, x.Entry.Act.Rights = []api.Line{}, []api.Right{}
	if b, errno := act.Make(conf(), x); errno != api.OK || !bytes.Equal(b, []byte{1, 7}) {
		t.Errorf("% x, %d", b, errno)
	}
}

func TestP8_6BytesOfNoBody(t *testing.T) {
	for _, s := range []string{
		"", "00", "00 00", "01", "01 80", "01 80 00", "01 81 10", "01 07 00", "02", "02 00", "03", "03 00", "04 00", "ff",
		"02 02 00 01 01 01 ac 02 00", "02 02 00 01 01 01", "03 08 00 01 02 00", "03 00 00 01 02",
	} {
		if x, errno := act.Read(conf(), unhex(s)); errno != api.ErrActBytes || !same(x, act.Body{}) {
			t.Errorf("Read of %s: %+v, %d", s, x, errno)
		}
	}
}

func (r chance) body(c api.Config) (act.Body, []byte) {
	switch r.Intn(3) {
	case 0:
		position := uint64(r.number(0, api.MaxLog))
		return act.Body{Kind: act.BodyHello, Position: position}, join(small(1), plainVar(position))
	case 1:
		a := r.act(c)
		return act.Body{Kind: act.BodyAct, Act: a}, join(small(2), modelAct(a))
	}
	e := r.entry(c)
	return act.Body{Kind: act.BodyEntry, Entry: e}, join(small(3), modelEntry(e))
}

func TestP8_7Bodies(t *testing.T) {
	r := chance{rand.New(rand.NewSource(11))}
	for _, c := range []api.Config{conf(), greatest(), least()} {
		for range 5000 {
			x, want := r.body(c)
			b, errno := act.Make(c, x)
			if errno != api.OK || !bytes.Equal(b, want) {
				t.Fatalf("Make of %+v: % x, %d", x, b, errno)
			}
			if y, errno := act.Read(c, b); errno != api.OK || !same(x, y) {
				t.Fatalf("Read of % x: %+v, %d", b, y, errno)
			}
			lookHurtBody(t, c, r.hurt(b))
		}
	}
}

func lookHurtBody(t *testing.T, c api.Config, b []byte) {
	p := parser{b: b}
	want := act.Body{Kind: p.small()}
	errno := api.ErrActBytes
	switch want.Kind {
	case act.BodyHello:
		if want.Position = uint64(p.num()); want.Position <= api.MaxLog {
			errno = api.OK
		}
	case act.BodyAct:
		want.Act = p.act(p.small())
		errno = act.Check(c, want.Act)
	case act.BodyEntry:
		want.Entry = p.entry()
		errno = act.CheckEntry(c, want.Entry)
	}
	if p.bad || len(p.b) > 0 || errno != api.OK {
		want, errno = act.Body{}, api.ErrActBytes
	}
	if x, got := act.Read(c, b); got != errno || !same(x, want) {
		t.Fatalf("Read of % x: %+v, %d, want %+v, %d", b, x, got, want, errno)
	}
}
