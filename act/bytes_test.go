package act_test

import (
	"bytes"
	"encoding/hex"
	"math/rand"
	"slices"
	"strings"
	"testing"

	"till/act"
	"till/api"
)

// unhex is the bytes that a text like "01 0a" names.
func unhex(s string) []byte {
	b, err := hex.DecodeString(strings.ReplaceAll(s, " ", ""))
	if err != nil {
		panic(err)
	}
	return b
}

func clamp(version int) api.Act {
	a := write()
	a.Guards, a.Sets = []api.Guard{{Kind: api.GuardLeast, N: 5}}, []api.Set{{Version: version, N: 275}}
	a.Merge.Kind = api.MergeClamp
	return a
}

func TestP8_4ActsInBytes(t *testing.T) {
	two := write(api.Line{Counter: 0, Change: -2}, api.Line{Counter: 1, Change: 1})
	surely := two
	surely.Sure = true
	ask := api.Act{Head: api.Head{Number: 1}, Kind: api.ActAsk, Right: api.Right{N: 300}}
	for _, x := range []struct {
		a api.Act
		b string
	}{
		{two, "01 01 03 00 02 00 03 01 02 00 00 00 00"},
		{surely, "01 01 03 01 02 00 03 01 02 00 00 00 00"},
		{clamp(-1), "01 01 03 00 00 01 01 00 0a 01 00 00 93 02 01 00"},
		{clamp(4), "01 01 03 00 00 01 01 00 0a 01 00 05 93 02 01 00"},
		{loose(), "01 01 03 00 02 00 03 01 02 02 01 01 05 04 00 0e 01 00 00 93 02 02 01 01 08"},
		{ask, "02 00 01 00 00 ac 02"},
		{one(api.ActGive, 0), "03 00 01 01 01 ac 02"},
		{one(api.ActPass, 1), "04 00 01 01 01 ac 02 01"},
		{acts()["yield"], "05 01 09 02 02 00 01 05 01 00 06"},
		{yield(), "05 01 09 02 00"},
	} {
		want := unhex(x.b)
		b, errno := act.Encode(conf(), x.a)
		if errno != api.OK || !bytes.Equal(b, want) {
			t.Errorf("Encode: % x, %d, want %s", b, errno, x.b)
		}
		a, errno := act.Decode(conf(), want)
		if errno != api.OK || !same(a, x.a) {
			t.Errorf("Decode of %s: %+v, %d", x.b, a, errno)
		}
	}
}

func TestP8_4EntriesInBytes(t *testing.T) {
	ask := api.Act{Head: api.Head{Number: 1}, Kind: api.ActAsk, Right: api.Right{N: 300}}
	for _, x := range []struct {
		e api.Entry
		b string
	}{
		{api.Entry{Position: 7, Act: ask, Outcome: api.Granted, N: 10}, "07 02 00 01 00 00 ac 02 04 0a"},
		{fence(), "08 00 01 02"},
		{api.Entry{Position: 2048, Fence: 0, Gen: 200}, "80 10 00 00 c8 01"},
		{api.Entry{Position: 7, Act: sure(), Outcome: api.Rejected}, "07 01 01 03 01 01 00 03 00 00 00 00 03 00 00"},
		{applied(), "07 01 01 03 00 02 00 03 01 02 02 01 01 05 04 00 0e 01 00 00 93 02 02 01 01 08 01 02 00 03 01 02 01 00 01 93 02"},
		{done(one(api.ActPass, 1)), "07 04 00 01 01 01 ac 02 01 05"},
		{done(one(api.ActGive, 0)), "07 03 00 01 01 01 ac 02 05"},
		{done(yield()), "07 05 01 09 02 00 05"},
	} {
		want := unhex(x.b)
		b, errno := act.EncodeEntry(conf(), x.e)
		if errno != api.OK || !bytes.Equal(b, want) {
			t.Errorf("EncodeEntry: % x, %d, want %s", b, errno, x.b)
		}
		e, errno := act.DecodeEntry(conf(), want)
		if errno != api.OK || !same(e, x.e) {
			t.Errorf("DecodeEntry of %s: %+v, %d", x.b, e, errno)
		}
	}
}

func TestP8_4WhatMayNotBeIsNotWritten(t *testing.T) {
	unclamped := clamp(4)
	unclamped.Merge.Kind = api.MergeNone
	headless := write()
	headless.Number = 0
	for _, a := range []api.Act{{}, unclamped, headless, write(), one(api.ActPass, 0), one(api.ActAsk, 1), one(api.ActNone, 0)} {
		want := act.Check(conf(), a)
		if b, errno := act.Encode(conf(), a); errno == api.OK || errno != want || b != nil {
			t.Errorf("Encode of %+v: % x, %d, want %d", a, b, errno, want)
		}
		e := api.Entry{Position: 1, Act: a, Outcome: api.Done}
		want = act.CheckEntry(conf(), e)
		if b, errno := act.EncodeEntry(conf(), e); errno == api.OK || errno != want || b != nil {
			t.Errorf("EncodeEntry of %+v: % x, %d, want %d", e, b, errno, want)
		}
	}
}

func TestP8_4BytesOfNoAct(t *testing.T) {
	for _, s := range []string{
		"", "00", "00 00", "06 00 01", "06 00 01 00 00 01", "ff",
		"80 00", "02 00 81 00 00 00 01", // a number that is not in its shortest form
		"02 00 00 00 00 01",                                  // number 0
		"02 02 01 00 00 01",                                  // till 2
		"02 00 01 02 00 01",                                  // counter 2
		"02 00 01 00 02 01",                                  // way 2
		"02 00 01 00 00 00",                                  // none
		"02 00 01 00 00 81 80 80 80 80 20",                   // 2^40 + 1
		"02 00 81 80 80 80 80 20 00 00 01",                   // number 2^40 + 1
		"02 00 01 00 00 01 00",                               // a byte behind it
		"04 00 01 00 00 01 00",                               // a pass to itself
		"04 00 01 00 00 01",                                  // a pass to none
		"05 00 01 00 00",                                     // generation 0
		"05 00 01 01 02 01 00 01 00 01 01",                   // rights that do not rise
		"05 00 01 01 ff",                                     // rights that are not there
		"05 00 01 01 01 00 00 81 80 80 80 80 80 80 20",       // 2^54 + 1 of them
		"01 00 01 02 01 00 03 00 00 00 00",                   // neither sure nor not
		"01 00 01 ff 01 00 03 00 00 00 00",                   //
		"01 00 01 00 01 00 00 00 00 00 00",                   // no change
		"01 00 01 00 00 00 00 00 00",                         // no line
		"01 00 01 00 09" + strings.Repeat("00 03", 9) + "00", // nine lines
		"01 00 01 00 01 00 82 80 80 80 80 40 00 00 00 00",    // 2^40 + 1
		"01 00 01 00 01 00 81 80 80 80 80 40 00 00 00 00",    // -2^40 - 1
		"01 00 01 00 01 00 03 01 05 00 00 00 00 00",          // guard 5
		"01 00 01 00 01 00 03 00 01 00 05 93 02 00 00",       // a version without a clamp
		"01 00 01 00 01 00 03 00 00 04 00",                   // merge 4
		"01 00 01 00 01 00 03 00 00 02 00",                   // no other lines
		"01 00 01 00 01 00 03 00 00 01 01 00 03",             // other lines, clamped
		"01 00 01 01 01 00 03 00 00 01 00",                   // sure, clamped
	} {
		if a, errno := act.Decode(conf(), unhex(s)); errno != api.ErrActBytes || !same(a, api.Act{}) {
			t.Errorf("Decode of %s: %+v, %d", s, a, errno)
		}
	}
}

func TestP8_4BytesOfNoEntry(t *testing.T) {
	for _, s := range []string{
		"", "08", "08 00", "08 00 01", "08 00 01 00", "08 00 02 01", "00 00 01 01", "81 10 00 01 01", "08 00 01 02 00", "88 00 00 01 02",
		"08 00 01 81 80 80 80 80 20", // generation 2^40 + 1
		"08 06 00 01 00 00 01 05",
		"07 02 00 01 00 00 ac 02",          // no outcome
		"07 02 00 01 00 00 ac 02 04",       // no N
		"07 02 00 01 00 00 ac 02 04 ad 02", // more than was asked for
		"07 02 00 01 00 00 ac 02 05 0a",    // done
		"07 02 00 01 00 00 ac 02 04 0a 00",
		"07 03 00 01 00 00 ac 02 04", "07 03 00 01 00 00 ac 02 05 00",
		"07 01 01 03 01 01 00 03 00 00 00 00 03 00",
		"07 01 01 03 01 01 00 03 00 00 00 00 01 00 00",                         // applied, nothing
		"07 01 01 03 01 01 00 03 00 00 00 00 03 01 00 03 00",                   // rejected, something
		"07 01 01 03 01 01 00 03 00 00 00 00 01 00 01 00 00 05",                // version 0
		"07 01 01 03 01 01 00 03 00 00 00 00 01 00 01 01 01 05",                // price 1
		"07 01 01 03 01 01 00 03 00 00 00 00 01 01 02 03 00",                   // counter 2
		"07 01 01 03 01 01 00 03 00 00 00 00 01 01 00 03 00 00",                // a byte behind it
		"07 01 01 03 00 00 00 00 00 00 03 00 00",                               // an act that may not be
		"07 01 01 03 01 01 00 03 00 00 00 00 01 01 00 03 ff 00 01",             // settings that are not there
		"07 01 01 03 01 01 00 03 00 00 00 00 01 00 01 00 81 80 80 80 80 20 05", // version 2^40 + 1
	} {
		if e, errno := act.DecodeEntry(conf(), unhex(s)); errno != api.ErrActBytes || !same(e, api.Entry{}) {
			t.Errorf("DecodeEntry of %s: %+v, %d", s, e, errno)
		}
	}
}

func greatestWrite() api.Act {
	a := api.Act{Head: api.Head{Till: 7, Number: api.MaxNumber}, Kind: api.ActWrite}
	a.Lines = slices.Repeat([]api.Line{{Counter: 63, Change: -api.MaxAmount}}, api.MaxLines)
	a.Guards = slices.Repeat([]api.Guard{{Kind: api.GuardMost, What: 63, N: api.MaxBound}}, api.MaxGuards)
	for price := range api.MaxSets {
		a.Sets = append(a.Sets, api.Set{Price: price, Version: -1, N: api.MaxAmount})
	}
	a.Merge = api.Merge{Kind: api.MergeOther, Other: slices.Clone(a.Lines)}
	return a
}

func greatestYield() api.Act {
	a := api.Act{Head: api.Head{Till: 7, Number: api.MaxNumber}, Kind: api.ActYield, Gen: api.MaxNumber}
	for i := range 2 * api.MaxCounters {
		a.Rights = append(a.Rights, api.Right{Counter: i / 2, Way: i % 2, N: api.MaxHeld})
	}
	return a
}

func TestP8_5HowLong(t *testing.T) {
	for _, x := range []struct {
		a    api.Act
		size int
	}{{greatestWrite(), 198}, {greatestYield(), 1295}} {
		b, errno := act.Encode(greatest(), x.a)
		if errno != api.OK || len(b) != x.size {
			t.Errorf("kind %d: %d bytes, %d, want %d", x.a.Kind, len(b), errno, x.size)
		}
		a, errno := act.Decode(greatest(), b)
		if errno != api.OK || !same(a, x.a) {
			t.Errorf("kind %d read again: %d", x.a.Kind, errno)
		}
	}
	e := api.Entry{Position: api.MaxLog, Act: greatestYield(), Outcome: api.Done}
	b, errno := act.EncodeEntry(greatest(), e)
	if errno != api.OK || len(b) != 1298 {
		t.Errorf("the greatest entry: %d bytes, %d", len(b), errno)
	}
	if x, errno := act.DecodeEntry(greatest(), b); errno != api.OK || !same(x, e) {
		t.Errorf("the greatest entry read again: %d", errno)
	}
}

func TestP8_5DrawnOnesAreNoLonger(t *testing.T) {
	r, c := chance{rand.New(rand.NewSource(5))}, greatest()
	for range 3000 {
		e := r.entry(c)
		b, errno := act.EncodeEntry(c, e)
		if errno != api.OK || len(b) > 1298 {
			t.Fatalf("%+v: %d bytes, %d", e, len(b), errno)
		}
		b, errno = act.Encode(c, r.act(c))
		if errno != api.OK || len(b) > 1295 || b[0] != api.ActYield && len(b) > 198 {
			t.Fatalf("% x: %d bytes, %d", b, len(b), errno)
		}
	}
}

// What is drawn is written as the chapter says, and what is written is read.
func TestP8_7WhatIsMadeIsRead(t *testing.T) {
	r := chance{rand.New(rand.NewSource(7))}
	for _, c := range []api.Config{conf(), greatest(), least()} {
		for range 3000 {
			a, e := r.act(c), r.entry(c)
			b, errno := act.Encode(c, a)
			if errno != api.OK || !bytes.Equal(b, modelAct(a)) {
				t.Fatalf("Encode of %+v: % x, %d", a, b, errno)
			}
			if x, errno := act.Decode(c, b); errno != api.OK || !same(x, a) {
				t.Fatalf("Decode of % x: %+v, %d", b, x, errno)
			}
			b, errno = act.EncodeEntry(c, e)
			if errno != api.OK || !bytes.Equal(b, modelEntry(e)) {
				t.Fatalf("EncodeEntry of %+v: % x, %d", e, b, errno)
			}
			if x, errno := act.DecodeEntry(c, b); errno != api.OK || !same(x, e) {
				t.Fatalf("DecodeEntry of % x: %+v, %d", b, x, errno)
			}
		}
	}
}

// Of hurt bytes the act is read that a parser of another make finds in them, if it may be; and it is written as they stand.
func TestP8_7WhatIsReadIsMade(t *testing.T) {
	r := chance{rand.New(rand.NewSource(8))}
	taken := 0
	for _, c := range []api.Config{conf(), greatest(), least()} {
		for range 20000 {
			b := r.hurt(modelAct(r.act(c)))
			p := parser{b: b}
			want := p.act(p.small())
			ok := !p.bad && len(p.b) == 0 && act.Check(c, want) == api.OK
			a, errno := act.Decode(c, b)
			if ok != (errno == api.OK) || ok && !same(a, want) || !ok && (errno != api.ErrActBytes || !same(a, api.Act{})) {
				t.Fatalf("Decode of % x: %+v, %d", b, a, errno)
			}
			if ok {
				taken++
				if again, errno := act.Encode(c, a); errno != api.OK || !bytes.Equal(again, b) {
					t.Fatalf("Encode of what % x tells: % x, %d", b, again, errno)
				}
			}
		}
	}
	if taken < 5000 {
		t.Errorf("only %d of the hurt bytes were acts", taken)
	}
}

func TestP8_7WhatIsReadIsMadeOfEntries(t *testing.T) {
	r := chance{rand.New(rand.NewSource(9))}
	taken := 0
	for _, c := range []api.Config{conf(), greatest(), least()} {
		for range 20000 {
			b := r.hurt(modelEntry(r.entry(c)))
			p := parser{b: b}
			want := p.entry()
			ok := !p.bad && len(p.b) == 0 && act.CheckEntry(c, want) == api.OK
			e, errno := act.DecodeEntry(c, b)
			if ok != (errno == api.OK) || ok && !same(e, want) || !ok && (errno != api.ErrActBytes || !same(e, api.Entry{})) {
				t.Fatalf("DecodeEntry of % x: %+v, %d", b, e, errno)
			}
			if ok {
				taken++
				if again, errno := act.EncodeEntry(c, e); errno != api.OK || !bytes.Equal(again, b) {
					t.Fatalf("EncodeEntry of what % x tells: % x, %d", b, again, errno)
				}
			}
		}
	}
	if taken < 5000 {
		t.Errorf("only %d of the hurt bytes were entries", taken)
	}
}

// All rows of up to three bytes, and up to six of few bytes: none is read that is not written so.
func TestP8_7ShortBytes(t *testing.T) {
	c := conf()
	look := func(b []byte) {
		if a, errno := act.Decode(c, b); errno == api.OK {
			if again, errno := act.Encode(c, a); errno != api.OK || !bytes.Equal(again, b) {
				t.Fatalf("% x is read as %+v, which is % x, %d", b, a, again, errno)
			}
		}
		if e, errno := act.DecodeEntry(c, b); errno == api.OK {
			if again, errno := act.EncodeEntry(c, e); errno != api.OK || !bytes.Equal(again, b) {
				t.Fatalf("% x is read as %+v, which is % x, %d", b, e, again, errno)
			}
		}
		if x, errno := act.Read(c, b); errno == api.OK {
			if again, errno := act.Make(c, x); errno != api.OK || !bytes.Equal(again, b) {
				t.Fatalf("% x is read as %+v, which is % x, %d", b, x, again, errno)
			}
		}
	}
	var all func(b []byte, left int, of []byte)
	all = func(b []byte, left int, of []byte) {
		look(b)
		if left > 0 {
			for _, x := range of {
				all(append(b, x), left-1, of)
			}
		}
	}
	all(nil, 6, []byte{0, 1, 2, 3, 5, 0x80})
	var every []byte
	for i := range 256 {
		every = append(every, byte(i))
	}
	all(nil, 2, every)
}

func TestP8_7NoTwoAlike(t *testing.T) {
	r, c := chance{rand.New(rand.NewSource(10))}, conf()
	seen := map[string]api.Act{}
	for range 5000 {
		a := r.act(c)
		b, _ := act.Encode(c, a)
		if other, ok := seen[string(b)]; ok && !same(other, a) {
			t.Fatalf("% x is %+v and %+v", b, other, a)
		}
		seen[string(b)] = a
	}
}
