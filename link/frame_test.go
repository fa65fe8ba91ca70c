package link_test

import (
	"bytes"
	"encoding/binary"
	"hash/crc32"
	"math"
	"math/rand"
	"slices"
	"testing"

	"till/api"
	"till/link"
)

// summed lays bytes ahead of their check sum, told by other means than the program's.
func summed(b []byte) []byte {
	return binary.BigEndian.AppendUint32(slices.Clone(b), crc32.ChecksumIEEE(b))
}

// laid is a frame's bytes by the chapter, whether it may be or not.
func laid(from, to byte, mine, yours, seq, ack uint64, body []byte) []byte {
	b := []byte{from, to}
	for _, n := range []uint64{mine, yours, seq, ack, uint64(len(body))} {
		b = binary.AppendUvarint(b, n)
	}
	return summed(append(b, body...))
}

func sameFrame(x, y api.Frame) bool {
	body := bytes.Equal(x.Body, y.Body)
	return body && x.From == y.From && x.To == y.To && x.Mine == y.Mine && x.Yours == y.Yours && x.Seq == y.Seq && x.Ack == y.Ack
}

// passes writes a frame that may be, and reads it.
func passes(t *testing.T, f api.Frame) {
	t.Helper()
	b := link.EncodeFrame(f)
	if want := laid(byte(f.From), byte(f.To), f.Mine, f.Yours, f.Seq, f.Ack, f.Body); !bytes.Equal(b, want) {
		t.Errorf("EncodeFrame(%+v): %x, want %x", f, b, want)
	}
	if len(b) > api.MaxFrame {
		t.Errorf("EncodeFrame(%+v): %d bytes", f, len(b))
	}
	if g, ok := link.DecodeFrame(b); !ok || !sameFrame(g, f) {
		t.Errorf("DecodeFrame(%x): %+v, %v, want %+v", b, g, ok, f)
	}
}

func isNone(t *testing.T, why string, b []byte) {
	t.Helper()
	if f, ok := link.DecodeFrame(b); ok || !sameFrame(f, api.Frame{}) {
		t.Errorf("DecodeFrame of %s: %+v, %v", why, f, ok)
	}
}

func TestP14_1Bytes(t *testing.T) {
	f := api.Frame{From: 0, To: 2, Mine: 3, Yours: 300, Seq: 1, Body: []byte("ab")}
	want := summed([]byte{0, 2, 3, 0xac, 2, 1, 0, 2, 'a', 'b'})
	if b := link.EncodeFrame(f); !bytes.Equal(b, want) {
		t.Errorf("%x, want %x", b, want)
	}
	word := api.Frame{From: 8, To: 7, Mine: 1}
	if b := link.EncodeFrame(word); !bytes.Equal(b, summed([]byte{8, 7, 1, 0, 0, 0, 0})) {
		t.Errorf("%x", b)
	}
}

func TestP14_1FramesThatMayBe(t *testing.T) {
	const most = api.MaxNumber
	full := make([]byte, api.MaxBody)
	for i := range full {
		full[i] = byte(i)
	}
	for _, f := range []api.Frame{
		{Mine: 1},
		{From: api.MaxTills, To: api.MaxTills, Mine: 1},
		{Mine: most}, {Mine: 1, Yours: most}, {Mine: 1, Seq: most}, {Mine: 1, Ack: most},
		{Mine: 1, Seq: 1}, {Mine: 1, Seq: 1, Body: []byte{}}, {Mine: 1, Body: []byte{}},
		{Mine: 1, Seq: 1, Body: []byte{0}}, {Mine: 1, Seq: 1, Body: full[:127]}, {Mine: 1, Seq: 1, Body: full[:128]},
		{Mine: 1, Seq: 1, Body: full},
		{From: 8, To: 8, Mine: most, Yours: most, Seq: most, Ack: most, Body: full},
	} {
		passes(t, f)
	}
	for from := range api.MaxTills + 1 {
		for to := range api.MaxTills + 1 {
			passes(t, api.Frame{From: from, To: to, Mine: 2, Yours: 1, Ack: 5})
		}
	}
}

func TestP14_1FramesThatMayNotBe(t *testing.T) {
	const over = api.MaxNumber + 1
	for _, f := range []api.Frame{
		{},
		{From: -1, Mine: 1}, {To: -1, Mine: 1}, {From: 9, Mine: 1}, {To: 9, Mine: 1},
		{From: 256, Mine: 1}, {To: 256, Mine: 1}, {From: math.MinInt, Mine: 1}, {To: math.MaxInt, Mine: 1},
		{Mine: 0, Yours: 1, Seq: 1, Ack: 1},
		{Mine: over}, {Mine: 1, Yours: over}, {Mine: 1, Seq: over}, {Mine: 1, Ack: over},
		{Mine: math.MaxUint64}, {Mine: 1, Yours: math.MaxUint64}, {Mine: 1, Seq: math.MaxUint64}, {Mine: 1, Ack: math.MaxUint64},
		{Mine: 1, Body: []byte{0}}, {Mine: 1, Ack: 1, Body: []byte("word")},
		{Mine: 1, Seq: 1, Body: make([]byte, api.MaxBody+1)},
	} {
		if b := link.EncodeFrame(f); len(b) != 0 {
			t.Errorf("EncodeFrame(%+v): %x", f, b)
		}
	}
}

// Bytes whose sum is right, but of which EncodeFrame makes none.
func TestP14_1BytesThatAreNone(t *testing.T) {
	const over = api.MaxNumber + 1
	for why, b := range map[string][]byte{
		"nothing":             nil,
		"a sum of nothing":    summed(nil),
		"a From of 9":         laid(9, 0, 1, 0, 0, 0, nil),
		"a From of 255":       laid(255, 0, 1, 0, 0, 0, nil),
		"a To of 9":           laid(0, 9, 1, 0, 0, 0, nil),
		"a Mine of 0":         laid(0, 1, 0, 1, 0, 0, nil),
		"a Mine too great":    laid(0, 1, over, 1, 0, 0, nil),
		"a Yours too great":   laid(0, 1, 1, over, 0, 0, nil),
		"a Seq too great":     laid(0, 1, 1, 1, over, 0, nil),
		"an Ack too great":    laid(0, 1, 1, 1, 0, over, nil),
		"a word with a body":  laid(0, 1, 1, 1, 0, 0, []byte("a")),
		"a body too long":     laid(0, 1, 1, 1, 1, 0, make([]byte, api.MaxBody+1)),
		"a Mine of two forms": summed([]byte{0, 1, 0x81, 0, 0, 0, 0, 0}),
		"a length too great":  summed([]byte{0, 1, 1, 0, 1, 0, 2, 'a'}),
		"a byte too many":     summed([]byte{0, 1, 1, 0, 1, 0, 1, 'a', 'b'}),
		"no body's length":    summed([]byte{0, 1, 1, 0, 1, 0}),
		"a number cut off":    summed([]byte{0, 1, 1, 0x80}),
		"its sum turned":      append(laid(0, 1, 1, 0, 0, 0, nil)[:7], 0, 0, 0, 0),
		"bytes behind":        append(laid(0, 1, 1, 0, 0, 0, nil), 0),
		"bytes without end":   make([]byte, 1<<20),
		"two frames":          append(laid(0, 1, 1, 0, 0, 0, nil), laid(0, 1, 1, 0, 0, 0, nil)...),
	} {
		isNone(t, why, b)
	}
}

func TestP14_1HurtOnTheWay(t *testing.T) {
	for _, f := range []api.Frame{
		{From: 1, To: 2, Mine: 7},
		{From: 1, To: 2, Mine: 1 << 39, Yours: 300, Seq: 12, Ack: 11, Body: []byte("a body of some bytes")},
	} {
		b := link.EncodeFrame(f)
		for i := range b {
			for bit := range 8 {
				hurt := slices.Clone(b)
				hurt[i] ^= 1 << bit
				isNone(t, "a frame with one bit turned", hurt)
			}
			isNone(t, "a frame that is cut", b[:i])
			isNone(t, "a frame without its beginning", b[i+1:])
		}
		isNone(t, "a frame with a byte behind it", append(slices.Clone(b), 0))
	}
}

func TestP14_1Drawn(t *testing.T) {
	r := rand.New(rand.NewSource(14))
	number := func() uint64 { return uint64(r.Int63n(1<<r.Intn(41))) + uint64(r.Intn(2)) }
	for range 4000 {
		f := api.Frame{From: r.Intn(9), To: r.Intn(9), Mine: max(1, number()), Yours: number(), Seq: number(), Ack: number()}
		if f.Seq > 0 {
			f.Body = make([]byte, r.Intn(1<<r.Intn(12)))
			r.Read(f.Body)
		}
		passes(t, f)
		// Of anything that is read as a frame these are just the bytes.
		b := link.EncodeFrame(f)
		b[r.Intn(len(b))] = byte(r.Intn(256))
		b = summed(b[:len(b)-4])
		if g, ok := link.DecodeFrame(b); ok && !bytes.Equal(link.EncodeFrame(g), b) {
			t.Errorf("DecodeFrame(%x): %+v, of which EncodeFrame makes %x", b, g, link.EncodeFrame(g))
		}
	}
}

func FuzzFrame(f *testing.F) {
	f.Add(laid(0, 1, 1, 0, 0, 0, nil))
	f.Add(laid(0, 1, 1, 2, 3, 4, []byte("body")))
	f.Add([]byte{})
	f.Fuzz(func(t *testing.T, b []byte) {
		for _, b := range [][]byte{b, summed(b)} {
			g, ok := link.DecodeFrame(b)
			if ok && !bytes.Equal(link.EncodeFrame(g), b) || !ok && !sameFrame(g, api.Frame{}) {
				t.Errorf("DecodeFrame(%x): %+v, %v", b, g, ok)
			}
		}
	})
}
