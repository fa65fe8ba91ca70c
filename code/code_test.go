package code_test

import (
	"bytes"
	"math/rand"
	"testing"

	"till/api"
	"till/code"
)

const allBits = 1<<64 - 1

// step is one item: written by write, read by read, which answers it as a step again.
type step struct {
	kind string
	n    uint64
	b    []byte
}

func (s step) write(w *code.Writer) {
	switch s.kind {
	case "U8":
		w.U8(uint8(s.n))
	case "U32":
		w.U32(uint32(s.n))
	case "U64":
		w.U64(s.n)
	case "Var":
		w.Var(s.n)
	case "Bytes":
		w.Bytes(s.b)
	case "Raw":
		w.Raw(s.b)
	}
}

// read asks for an item of the step's kind; n is a Var's bound, the length of b that of Bytes and of Raw.
func (s step) read(r *code.Reader) step {
	switch s.kind {
	case "U8":
		return step{s.kind, uint64(r.U8()), nil}
	case "U32":
		return step{s.kind, uint64(r.U32()), nil}
	case "U64":
		return step{s.kind, r.U64(), nil}
	case "Var":
		return step{s.kind, r.Var(s.n), nil}
	case "Bytes":
		return step{s.kind, 0, r.Bytes(len(s.b))}
	default:
		return step{s.kind, 0, r.Raw(len(s.b))}
	}
}

func (s step) same(o step) bool {
	return s.kind == o.kind && s.n == o.n && bytes.Equal(s.b, o.b)
}

func written(steps ...step) []byte {
	w := code.New()
	for _, s := range steps {
		s.write(w)
	}
	return w.Out()
}

func expectBytes(t *testing.T, what string, got, want []byte) {
	t.Helper()
	if !bytes.Equal(got, want) {
		t.Errorf("%s: % x, want % x", what, got, want)
	}
}

func expectReader(t *testing.T, what string, r *code.Reader, fault api.Errno, at, left int, end api.Errno) {
	t.Helper()
	if r.Fault() != fault || r.At() != at || r.Left() != left || r.End() != end {
		t.Errorf("%s: fault %d, at %d, left %d, end %d; want %d, %d, %d, %d",
			what, r.Fault(), r.At(), r.Left(), r.End(), fault, at, left, end)
	}
}

func TestP1_1NewHoldsNothing(t *testing.T) {
	w := code.New()
	if w.Len() != 0 || len(w.Out()) != 0 {
		t.Errorf("New: Len %d, Out % x", w.Len(), w.Out())
	}
	w.Raw(nil)
	if w.Len() != 0 {
		t.Errorf("Raw of nothing: Len %d", w.Len())
	}
}

func TestP1_1Forms(t *testing.T) {
	for _, c := range []struct {
		name  string
		steps []step
		want  []byte
	}{
		{"fixed sizes", []step{{"U32", 1, nil}, {"U8", 255, nil}, {"U64", 258, nil}}, []byte{0, 0, 0, 1, 0xff, 0, 0, 0, 0, 0, 0, 1, 2}},
		{"highest byte first", []step{{"U32", 0x01020304, nil}, {"U64", 0xf1f2f3f4f5f6f7f8, nil}}, []byte{1, 2, 3, 4, 0xf1, 0xf2, 0xf3, 0xf4, 0xf5, 0xf6, 0xf7, 0xf8}},
		{"all bits", []step{{"U8", 255, nil}, {"U32", 1<<32 - 1, nil}, {"U64", allBits, nil}}, bytes.Repeat([]byte{0xff}, 13)},
		{"texts", []step{{"Bytes", 0, []byte("ab")}, {"Raw", 0, []byte("cd")}, {"Bytes", 0, nil}}, []byte{2, 'a', 'b', 'c', 'd', 0}},
		{"a length of two bytes", []step{{"Bytes", 0, make([]byte, 128)}}, append([]byte{0x80, 1}, make([]byte, 128)...)},
		{"Var 0", []step{{"Var", 0, nil}}, []byte{0}},
		{"Var 1", []step{{"Var", 1, nil}}, []byte{1}},
		{"Var 127", []step{{"Var", 127, nil}}, []byte{0x7f}},
		{"Var 128", []step{{"Var", 128, nil}}, []byte{0x80, 1}},
		{"Var 677", []step{{"Var", 677, nil}}, []byte{0xa5, 5}},
		{"Var 2^14 - 1", []step{{"Var", 1<<14 - 1, nil}}, []byte{0xff, 0x7f}},
		{"Var 2^14", []step{{"Var", 1 << 14, nil}}, []byte{0x80, 0x80, 1}},
		{"Var 2^63 - 1", []step{{"Var", 1<<63 - 1, nil}}, append(bytes.Repeat([]byte{0xff}, 8), 0x7f)},
		{"Var 2^63", []step{{"Var", 1 << 63, nil}}, append(bytes.Repeat([]byte{0x80}, 9), 1)},
		{"Var 2^64 - 1", []step{{"Var", allBits, nil}}, append(bytes.Repeat([]byte{0xff}, 9), 1)},
	} {
		expectBytes(t, c.name, written(c.steps...), c.want)
	}
}

func TestP1_1OutGoesOnHolding(t *testing.T) {
	w := code.New()
	w.U8(1)
	expectBytes(t, "first", w.Out(), []byte{1})
	w.U8(2)
	expectBytes(t, "then", w.Out(), []byte{1, 2})
	expectBytes(t, "again", w.Out(), []byte{1, 2})
	if w.Len() != 2 {
		t.Errorf("Len %d, want 2", w.Len())
	}
	other := code.New()
	other.U8(7)
	expectBytes(t, "another writer", w.Out(), []byte{1, 2})
}

func TestP1_2ReadBeginsAtTheFirst(t *testing.T) {
	expectReader(t, "three bytes", code.Read([]byte{1, 2, 3}), api.OK, 0, 3, api.ErrCodeLeft)
	expectReader(t, "nothing", code.Read(nil), api.OK, 0, 0, api.OK)
	b := []byte{1, 2, 3}
	r := code.Read(b)
	r.U8()
	b[1], b[2] = 8, 9
	if n := r.U8(); n != 2 {
		t.Errorf("what was done to the bytes later is seen: %d", n)
	}
	expectBytes(t, "rest", r.Raw(1), []byte{3})
}

func TestP1_3PlaceIsBehindTheItem(t *testing.T) {
	steps := []step{{"U8", 3, nil}, {"U32", 4, nil}, {"U64", 5, nil}, {"Var", 677, nil}, {"Bytes", 0, []byte("abc")}, {"Raw", 0, []byte("de")}}
	places := []int{1, 5, 13, 15, 19, 21}
	r := code.Read(written(steps...))
	for i, s := range steps {
		if got := s.read(r); !got.same(s) {
			t.Errorf("item %d: %v, want %v", i, got, s)
		}
		if r.At() != places[i] || r.Left() != 21-places[i] {
			t.Errorf("behind item %d: at %d, left %d, want %d, %d", i, r.At(), r.Left(), places[i], 21-places[i])
		}
	}
}

// readNothing reads once by each call, and tells whether all of them answered 0 or empty.
func readNothing(r *code.Reader) bool {
	none := r.U8() == 0 && r.U32() == 0 && r.U64() == 0
	none = none && r.Var(allBits) == 0 && r.Var(0) == 0
	none = none && len(r.Bytes(9)) == 0 && len(r.Bytes(-1)) == 0
	return none && len(r.Raw(1)) == 0 && len(r.Raw(0)) == 0 && len(r.Raw(-1)) == 0
}

func TestP1_3FaultIsForGood(t *testing.T) {
	r := code.Read([]byte{7, 1, 1, 1})
	if r.U8() != 7 || r.U32() != 0 {
		t.Error("U8, then U32 of three bytes")
	}
	for range 2 {
		expectReader(t, "behind the fault", r, api.ErrCodeShort, 1, 3, api.ErrCodeShort)
		if !readNothing(r) {
			t.Error("something is read behind the fault")
		}
	}
	// A later call's own fault does not take the place of the first one.
	r = code.Read([]byte{5, 1})
	r.Var(4)
	r.Raw(-1)
	r.U64()
	expectReader(t, "the first fault", r, api.ErrCodeMax, 0, 2, api.ErrCodeMax)
	r = code.Read([]byte{5, 1})
	r.Raw(-1)
	r.U64()
	expectReader(t, "the first fault", r, api.ErrCodeArg, 0, 2, api.ErrCodeArg)
}

func TestP1_4FixedFaults(t *testing.T) {
	reads := []struct {
		name string
		size int
		read func(r *code.Reader) uint64
	}{
		{"U8", 1, func(r *code.Reader) uint64 { return uint64(r.U8()) }},
		{"U32", 4, func(r *code.Reader) uint64 { return uint64(r.U32()) }},
		{"U64", 8, (*code.Reader).U64},
	}
	for _, c := range reads {
		for size := range 10 {
			b := bytes.Repeat([]byte{0x81}, size)
			r := code.Read(b)
			n := c.read(r)
			if size < c.size {
				expectReader(t, c.name, r, api.ErrCodeShort, 0, size, api.ErrCodeShort)
				if n != 0 {
					t.Errorf("%s of %d bytes: %x", c.name, size, n)
				}
				continue
			}
			want := uint64(0x8181818181818181) >> (64 - 8*c.size)
			if n != want || r.Fault() != api.OK || r.At() != c.size {
				t.Errorf("%s of %d bytes: %x, fault %d, at %d", c.name, size, n, r.Fault(), r.At())
			}
		}
	}
}

func TestP1_4VarFaults(t *testing.T) {
	ones := bytes.Repeat([]byte{0xff}, 9)
	marks := bytes.Repeat([]byte{0x80}, 9)
	behind := func(b []byte, more ...byte) []byte { return append(bytes.Clone(b), more...) }
	for _, c := range []struct {
		b     []byte
		most  uint64
		n     uint64
		fault api.Errno
	}{
		{[]byte{0xa5, 5}, 1000, 677, api.OK},
		{[]byte{0xa5, 5}, 677, 677, api.OK},
		{[]byte{0xa5, 5}, 676, 0, api.ErrCodeMax},
		{[]byte{0}, 0, 0, api.OK},
		{[]byte{1}, 0, 0, api.ErrCodeMax},
		{nil, 9, 0, api.ErrCodeShort},
		{[]byte{0x80}, 9, 0, api.ErrCodeShort},
		{[]byte{0x80, 0}, 9, 0, api.ErrCodeForm},
		{[]byte{0xff, 0}, allBits, 0, api.ErrCodeForm},
		{[]byte{0xff, 0}, 0, 0, api.ErrCodeForm}, // the form is asked ahead of the bound
		{[]byte{0x80, 0x80, 0}, 9, 0, api.ErrCodeForm},
		{[]byte{0xff, 0xff}, 9, 0, api.ErrCodeShort}, // the end is asked ahead of the bound
		{ones, allBits, 0, api.ErrCodeShort},
		{behind(ones, 0), allBits, 0, api.ErrCodeForm},
		{behind(ones, 1), allBits, allBits, api.OK},
		{behind(ones, 1), allBits - 1, 0, api.ErrCodeMax},
		{behind(ones, 2), allBits, 0, api.ErrCodeForm},
		{behind(ones, 0x80), allBits, 0, api.ErrCodeForm},
		{behind(ones, 0x81, 0), allBits, 0, api.ErrCodeForm},
		{behind(ones, 0xff), allBits, 0, api.ErrCodeForm},
		{behind(ones, 0xff), 0, 0, api.ErrCodeForm},
		{behind(marks, 1), allBits, 1 << 63, api.OK},
		{behind(marks, 0), allBits, 0, api.ErrCodeForm},
		{behind(marks, 0x80, 1), allBits, 0, api.ErrCodeForm},
	} {
		r := code.Read(c.b)
		n := r.Var(c.most)
		at := 0
		if c.fault == api.OK {
			at = len(c.b)
		}
		if n != c.n || r.Fault() != c.fault || r.At() != at {
			t.Errorf("Var(%d) of % x: %d, fault %d, at %d; want %d, %d, %d", c.most, c.b, n, r.Fault(), r.At(), c.n, c.fault, at)
		}
	}
}

func TestP1_4BytesFaults(t *testing.T) {
	const greatest = 1<<63 - 1
	ones := bytes.Repeat([]byte{0xff}, 8)
	for _, c := range []struct {
		b     []byte
		most  int
		want  []byte
		at    int
		fault api.Errno
	}{
		{[]byte{2, 'a', 'b', 'c'}, 2, []byte("ab"), 3, api.OK},
		{[]byte{2, 'a', 'b'}, greatest, []byte("ab"), 3, api.OK},
		{[]byte{2, 'a', 'b'}, 1, nil, 0, api.ErrCodeMax},
		{[]byte{2}, 1, nil, 0, api.ErrCodeMax}, // the bound is asked ahead of what is left
		{[]byte{3, 'a', 'b'}, 9, nil, 0, api.ErrCodeShort},
		{[]byte{1}, 9, nil, 0, api.ErrCodeShort},
		{nil, 9, nil, 0, api.ErrCodeShort},
		{[]byte{0x80, 0}, 9, nil, 0, api.ErrCodeForm},
		{[]byte{0x80}, 9, nil, 0, api.ErrCodeShort},
		{[]byte{0}, -1, nil, 1, api.OK},
		{[]byte{0, 7}, -greatest - 1, nil, 1, api.OK},
		{[]byte{1, 'a'}, -1, nil, 0, api.ErrCodeMax},
		{[]byte{1, 'a'}, -greatest - 1, nil, 0, api.ErrCodeMax},
		{append(bytes.Clone(ones), 0x7f), greatest, nil, 0, api.ErrCodeShort},
		{append(bytes.Clone(ones), 0xff, 1), greatest, nil, 0, api.ErrCodeMax},
	} {
		r := code.Read(c.b)
		got := r.Bytes(c.most)
		if !bytes.Equal(got, c.want) || r.Fault() != c.fault || r.At() != c.at {
			t.Errorf("Bytes(%d) of % x: % x, fault %d, at %d; want % x, %d, %d", c.most, c.b, got, r.Fault(), r.At(), c.want, c.fault, c.at)
		}
	}
}

func TestP1_4RawFaults(t *testing.T) {
	const greatest = 1<<63 - 1
	for _, c := range []struct {
		b     []byte
		n     int
		want  []byte
		fault api.Errno
	}{
		{[]byte("abc"), 2, []byte("ab"), api.OK},
		{[]byte("abc"), 3, []byte("abc"), api.OK},
		{[]byte("abc"), 4, nil, api.ErrCodeShort},
		{[]byte("abc"), greatest, nil, api.ErrCodeShort},
		{[]byte("abc"), 0, nil, api.OK},
		{[]byte("abc"), -1, nil, api.ErrCodeArg},
		{[]byte("abc"), -greatest - 1, nil, api.ErrCodeArg},
		{nil, -1, nil, api.ErrCodeArg},
		{nil, 0, nil, api.OK},
		{nil, 1, nil, api.ErrCodeShort},
	} {
		r := code.Read(append([]byte{42}, c.b...))
		r.U8()
		got := r.Raw(c.n)
		if !bytes.Equal(got, c.want) || r.Fault() != c.fault || r.At() != 1+len(c.want) {
			t.Errorf("Raw(%d) of % x: % x, fault %d, at %d", c.n, c.b, got, r.Fault(), r.At())
		}
	}
}

func TestP1_5End(t *testing.T) {
	r := code.Read([]byte{0})
	expectReader(t, "a byte is left", r, api.OK, 0, 1, api.ErrCodeLeft)
	if r.U8() != 0 {
		t.Error("U8 of 00")
	}
	expectReader(t, "End is no fault: it goes on", r, api.OK, 1, 0, api.OK)
	r.U8()
	expectReader(t, "a fault with nothing left", r, api.ErrCodeShort, 1, 0, api.ErrCodeShort)
	r = code.Read([]byte{0, 0, 0})
	r.U32()
	expectReader(t, "a fault goes ahead of bytes that are left", r, api.ErrCodeShort, 0, 3, api.ErrCodeShort)
}

func drawnStep(r *rand.Rand) step {
	b := make([]byte, r.Intn(300))
	r.Read(b)
	n := r.Uint64() >> r.Intn(64)
	return []step{
		{"U8", n & 0xff, nil},
		{"U32", n & (1<<32 - 1), nil},
		{"U64", n, nil},
		{"Var", n, nil},
		{"Bytes", 0, b},
		{"Raw", 0, b},
	}[r.Intn(6)]
}

func TestP1_6WhatIsWrittenIsRead(t *testing.T) {
	draw := rand.New(rand.NewSource(16))
	for range 2000 {
		steps := make([]step, draw.Intn(12))
		for i := range steps {
			steps[i] = drawnStep(draw)
		}
		r := code.Read(written(steps...))
		for i, s := range steps {
			if got := s.read(r); !got.same(s) || r.Fault() != api.OK {
				t.Fatalf("item %d of %v: %v, fault %d", i, steps, got, r.Fault())
			}
		}
		if r.End() != api.OK {
			t.Fatalf("End %d of %v", r.End(), steps)
		}
	}
	for place := range 64 {
		for _, n := range []uint64{1<<place - 1, 1 << place, 1<<place + 1} {
			r := code.Read(written(step{"Var", n, nil}))
			if got := r.Var(n); got != n || r.End() != api.OK {
				t.Errorf("Var of %d: %d, end %d", n, got, r.End())
			}
		}
	}
}

// readsAgain reads a row of items of anybody's bytes, and if it comes to the end tells what a Writer makes of the answers.
func readsAgain(b []byte, asks []step) ([]byte, bool) {
	r := code.Read(b)
	w := code.New()
	for _, a := range asks {
		a.read(r).write(w)
	}
	return w.Out(), r.End() == api.OK
}

func TestP1_6ThereIsOneWayToWriteIt(t *testing.T) {
	for first := range 256 { // every text of two bytes, and of three with a mark in the first two
		for second := range 256 {
			b := []byte{byte(first), byte(second)}
			for _, asks := range [][]step{{{"Var", allBits, nil}}, {{"Bytes", 0, make([]byte, 9)}}} {
				if out, ok := readsAgain(b, asks); ok && !bytes.Equal(out, b) {
					t.Fatalf("% x is read, and written as % x", b, out)
				}
			}
			b = []byte{byte(first) | 0x80, byte(second) | 0x80, byte(second) & 1}
			if out, ok := readsAgain(b, []step{{"Var", allBits, nil}}); ok && !bytes.Equal(out, b) {
				t.Fatalf("% x is read, and written as % x", b, out)
			}
		}
	}
	draw := rand.New(rand.NewSource(61))
	met := 0
	for range 20000 {
		asks := []step{{"Var", allBits, nil}, {"U8", 0, nil}, {"Bytes", 0, make([]byte, 300)}}
		b := written(step{"Var", draw.Uint64() >> draw.Intn(64), nil}, step{"U8", draw.Uint64() & 0xff, nil}, step{"Bytes", 0, make([]byte, draw.Intn(300))})
		b[draw.Intn(min(len(b), 14))] = []byte{0, 1, 0x7f, 0x80, 0xff}[draw.Intn(5)]
		out, ok := readsAgain(b, asks)
		if !ok {
			continue
		}
		met++
		if !bytes.Equal(out, b) {
			t.Fatalf("% x is read, and written as % x", b, out)
		}
	}
	if met < 100 {
		t.Errorf("only %d rows came to the end", met)
	}
}

func TestP1_7OutIsNewMemory(t *testing.T) {
	w := code.New()
	w.Raw([]byte("abc"))
	first, second := w.Out(), w.Out()
	first[0] = 'x'
	_ = append(first, 'y')
	expectBytes(t, "the other answer", second, []byte("abc"))
	expectBytes(t, "what is held", w.Out(), []byte("abc"))
	w.U8('d')
	_ = append(second, 'z')
	expectBytes(t, "what is held", w.Out(), []byte("abcd"))
	expectBytes(t, "an earlier answer", second, []byte("abc"))
}

func TestP1_7ReadsAreNewMemory(t *testing.T) {
	in := []byte("\x02abcd")
	r := code.Read(in)
	first := r.Bytes(2)
	first[0] = 'x'
	_ = append(first, 'y', 'z')
	second := r.Raw(1)
	expectBytes(t, "what follows", second, []byte("c"))
	second[0] = 'x'
	_ = append(second, 'y')
	expectBytes(t, "what follows", r.Raw(1), []byte("d"))
	expectBytes(t, "what was handed in", in, []byte("\x02abcd"))
}

func TestP1_7ArgumentsAreLeftAlone(t *testing.T) {
	whole := []byte("abcdefgh")
	part := whole[:2]
	w := code.New()
	w.Raw(part)
	w.Bytes(part)
	w.U64(allBits)
	part[0] = 'x'
	expectBytes(t, "what is held", w.Out()[:5], []byte("ab\x02ab"))
	r := code.Read(part)
	expectReader(t, "spare room is not read", r, api.OK, 0, 2, api.ErrCodeLeft)
	_ = append(r.Raw(1), 'y')
	code.Sum(part)
	expectBytes(t, "the argument and its spare room", whole, []byte("xbcdefgh"))
}
