package code_test

import (
	"bytes"
	"math/rand"
	"testing"

	"till/code"
)

// bitwiseSum goes bit by bit, as the document tells it.
func bitwiseSum(b []byte) uint32 {
	register := uint32(0xffffffff)
	for _, c := range b {
		for place := range 8 {
			comes := uint32(c) >> place & 1
			falls := register & 1
			register >>= 1
			if falls != comes {
				register ^= 0xedb88320
			}
		}
	}
	return ^register
}

// turned is a copy in which these bits are others, counted in the order in which they come.
func turned(b []byte, places ...int) []byte {
	out := bytes.Clone(b)
	for _, p := range places {
		out[p/8] ^= 1 << (p % 8)
	}
	return out
}

func drawnBytes(draw *rand.Rand, n int) []byte {
	b := make([]byte, n)
	draw.Read(b)
	return b
}

func TestP1_8Examples(t *testing.T) {
	for _, c := range []struct {
		b    []byte
		want uint32
	}{
		{nil, 0},
		{[]byte("k7"), 0x7f6d059c},
		{[]byte{1, 2, 3, 4, 5}, 0x470b99f4},
		{bytes.Repeat([]byte{0x3c}, 40), 0x12af98b1},
	} {
		if got := code.Sum(c.b); got != c.want {
			t.Errorf("Sum of % x: %08x, want %08x", c.b, got, c.want)
		}
	}
}

func TestP1_8BitByBit(t *testing.T) {
	for n := range 1 << 16 {
		one, two := []byte{byte(n)}, []byte{byte(n), byte(n >> 8)}
		if code.Sum(one) != bitwiseSum(one) || code.Sum(two) != bitwiseSum(two) {
			t.Fatalf("Sum of % x: %08x, want %08x", two, code.Sum(two), bitwiseSum(two))
		}
	}
	draw := rand.New(rand.NewSource(18))
	for size := range 600 {
		b := drawnBytes(draw, size)
		if got, want := code.Sum(b), bitwiseSum(b); got != want {
			t.Fatalf("Sum of % x: %08x, want %08x", b, got, want)
		}
	}
}

func TestP1_9OneAndTwoBitsOfAShortText(t *testing.T) {
	b := []byte("bounded stock and prices")
	sums := map[uint32]int{code.Sum(b): -1}
	for place := range 8 * len(b) {
		sum := code.Sum(turned(b, place))
		// Texts with one bit turned differ from each other in two.
		if other, there := sums[sum]; there {
			t.Fatalf("bits %d and %d: one sum", place, other)
		}
		sums[sum] = place
	}
}

func TestP1_9GreatestText(t *testing.T) {
	const size = 1048576
	draw := rand.New(rand.NewSource(19))
	b := drawnBytes(draw, size)
	was := code.Sum(b)
	pairs := [][]int{{0}, {8*size - 1}, {0, 1}, {0, 8*size - 1}, {0, 8*size - 2}, {1, 8*size - 1}, {8*size - 2, 8*size - 1}}
	for range 50 {
		pairs = append(pairs, []int{draw.Intn(4 * size), 4*size + draw.Intn(4*size)})
	}
	for _, places := range pairs {
		if code.Sum(turned(b, places...)) == was {
			t.Errorf("bits %v of %d bytes: one sum", places, size)
		}
	}
}

// burst tells the places of the set bits of a row of 32 that begins at a bit.
func burst(at int, row uint32) []int {
	var places []int
	for k := range 32 {
		if row>>k&1 == 1 {
			places = append(places, at+k)
		}
	}
	return places
}

func TestP1_9ThirtyTwoBitsInARow(t *testing.T) {
	draw := rand.New(rand.NewSource(32))
	for range 300 {
		b := drawnBytes(draw, 4+draw.Intn(200))
		was := code.Sum(b)
		last := 8*len(b) - 32
		for _, at := range []int{0, last, draw.Intn(last + 1)} {
			for _, row := range []uint32{1, 1 << 31, 0xffffffff, 0xedb88320, 0x80000001, draw.Uint32() | 1} {
				if code.Sum(turned(b, burst(at, row)...)) == was {
					t.Fatalf("bits %08x from %d on of % x: one sum", row, at, b)
				}
			}
		}
	}
}

func TestP1_9ExclusiveOr(t *testing.T) {
	draw := rand.New(rand.NewSource(91))
	for size := range 300 {
		x, y, z := drawnBytes(draw, size), drawnBytes(draw, size), drawnBytes(draw, size)
		fourth := make([]byte, size)
		for i := range fourth {
			fourth[i] = x[i] ^ y[i] ^ z[i]
		}
		if got, want := code.Sum(fourth), code.Sum(x)^code.Sum(y)^code.Sum(z); got != want {
			t.Fatalf("size %d: %08x, want %08x", size, got, want)
		}
	}
}
