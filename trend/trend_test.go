package trend_test

import (
	"math"
	"math/big"
	"math/rand"
	"testing"

	"till/api"
	"till/trend"
)

func made(t *testing.T, keep float64) *trend.Trend {
	t.Helper()
	x, e := trend.New(keep)
	if x == nil || e != api.OK {
		t.Fatalf("New(%v): %v, %d", keep, x, e)
	}
	return x
}

func noted(t *testing.T, keep float64, notes ...int64) *trend.Trend {
	t.Helper()
	x := made(t, keep)
	for _, n := range notes {
		x.Note(n)
	}
	return x
}

func holds(t *testing.T, x *trend.Trend, average float64, count int) {
	t.Helper()
	if math.Float64bits(x.Average()) != math.Float64bits(average) || x.Count() != count {
		t.Errorf("average %v, count %d; want %v, %d", x.Average(), x.Count(), average, count)
	}
}

func advises(t *testing.T, x *trend.Trend, have, want int64) {
	t.Helper()
	if n := x.Advice(have); n != want {
		t.Errorf("average %v: Advice(%d) is %d, want %d", x.Average(), have, n, want)
	}
}

func exact(x float64) *big.Rat { return new(big.Rat).SetFloat64(x) }

func rounded(x *big.Rat) float64 {
	y, _ := x.Float64()
	return y
}

// model is a trend by the chapter's words: exact numbers, rounded once a step.
type model struct {
	weight, average float64
	count           int
	met             map[string]int
}

func (m *model) note(x int64) {
	y := rounded(new(big.Rat).SetInt64(x))
	m.count++
	if m.count == 1 {
		m.average = y
		return
	}
	a := m.average
	d := rounded(new(big.Rat).Sub(exact(y), exact(a)))
	step := rounded(new(big.Rat).Mul(exact(d), exact(m.weight)))
	b := rounded(new(big.Rat).Add(exact(a), exact(step)))
	lo, hi := a, y
	if y < a {
		lo, hi = y, a
	}
	switch {
	case b < lo:
		m.met["below the lesser"]++
		b = lo
	case b > hi:
		m.met["above the greater"]++
		b = hi
	case b == a && y != a:
		m.met["does not move"]++
	case b == y && y != a:
		m.met["is there"]++
	default:
		m.met["between"]++
	}
	m.average = b
}

func (m *model) advice(have int64) int64 {
	if m.count == 0 {
		return 0
	}
	average := exact(m.average)
	whole := new(big.Int).Div(average.Num(), average.Denom()) // toward the lesser one, as a denominator is above 0
	if !average.IsInt() {
		whole.Add(whole, big.NewInt(1))
	}
	n := whole.Sub(whole, big.NewInt(have))
	if n.Sign() <= 0 {
		m.met["enough"]++
		return 0
	}
	if n.Cmp(big.NewInt(api.MaxAmount)) >= 0 {
		m.met["the most"]++
		return api.MaxAmount
	}
	m.met["lacks some"]++
	return n.Int64()
}

func TestP18_1New(t *testing.T) {
	for _, keep := range []float64{0, math.Copysign(0, -1), -1, -0.5, -math.SmallestNonzeroFloat64, 1.5, math.Nextafter(1, 2), 1e300, math.MaxFloat64, math.Inf(1), math.Inf(-1), math.NaN()} {
		if x, e := trend.New(keep); x != nil || e != api.ErrTrendKeep {
			t.Errorf("New(%v): %v, %d", keep, x, e)
		}
	}
	for _, keep := range []float64{math.SmallestNonzeroFloat64, 1e-300, 0.1, 0.5, math.Nextafter(1, 0), 1} {
		holds(t, made(t, keep), 0, 0)
	}
}

func TestP18_2EachStepIsRounded(t *testing.T) {
	for _, c := range []struct {
		keep  float64
		notes []int64
		want  float64
	}{
		{0.5, []int64{10, 20}, 15},
		{0.5, []int64{20, 10}, 15},
		{0.25, []int64{8, 0, 0}, 4.5},
		{0.25, []int64{-8, 0, 0}, -4.5},
		{0.1, []int64{1, 2}, 1.1},
		{0.1, []int64{1, 2, 3}, 1.29},
		{1, []int64{1, 2, -3}, -3},
		{0.5, []int64{0, 0, 1}, 0.5},
		{0.5, []int64{1<<53 + 1}, 1 << 53},       // a tie: to the even one
		{0.5, []int64{1<<53 + 3}, 1<<53 + 4},     // likewise
		{0.5, []int64{-(1<<53 + 1)}, -(1 << 53)}, // likewise
		{0.5, []int64{math.MaxInt64}, 1 << 63},
		{0.5, []int64{math.MinInt64}, -(1 << 63)},
		{0.5, []int64{math.MinInt64, math.MaxInt64}, 0},
		{1, []int64{-(1 << 53), 3}, 3}, // b is 4
		{1, []int64{1 << 53, -3}, -3},  // b is -4
		{0.5, []int64{1 << 53, 1}, 1<<52 + 0},
		{math.SmallestNonzeroFloat64, []int64{0, 1}, math.SmallestNonzeroFloat64},
		{math.SmallestNonzeroFloat64, []int64{0, -3}, -3 * math.SmallestNonzeroFloat64},
		{math.SmallestNonzeroFloat64, []int64{1, math.MaxInt64}, 1},
	} {
		holds(t, noted(t, c.keep, c.notes...), c.want, len(c.notes))
	}
}

// TestP18_2NoStepsJoined: with these the product and the sum, rounded together, are another number than rounded one by one.
func TestP18_2NoStepsJoined(t *testing.T) {
	random, apart := rand.New(rand.NewSource(182)), 0
	for range 4000 {
		keep, first, second := 1-random.Float64(), random.Int63n(2000)-1000, random.Int63n(2000)-1000
		m := model{weight: keep, met: map[string]int{}}
		m.note(first)
		m.note(second)
		joined := math.FMA(float64(second-first), keep, float64(first))
		if joined != m.average {
			apart++
		}
		holds(t, noted(t, keep, first, second), m.average, 2)
	}
	if apart < 100 {
		t.Errorf("only %d were another number if joined", apart)
	}
}

func TestP18_3AverageAndCount(t *testing.T) {
	x := made(t, 0.5)
	holds(t, x, 0, 0)
	for i := range 1000 {
		x.Note(int64(7))
		holds(t, x, 7, i+1)
		holds(t, x, 7, i+1) // to ask changes nothing
		x.Advice(3)
		holds(t, x, 7, i+1)
	}
	holds(t, noted(t, 0.5, 0), 0, 1) // a note of 0 is one
}

func TestP18_4Advice(t *testing.T) {
	for _, have := range []int64{0, -3, 3, math.MinInt64, math.MaxInt64} {
		advises(t, made(t, 0.5), have, 0)
	}
	for _, c := range []struct {
		notes      []int64
		have, want int64
	}{
		{[]int64{15, 0}, 0, 8},
		{[]int64{15, 0}, 7, 1},
		{[]int64{15, 0}, 8, 0},
		{[]int64{15, 0}, 9, 0},
		{[]int64{15, 0}, -2, 10},
		{[]int64{-15, 0}, -9, 2},
		{[]int64{-15, 0}, -8, 1},
		{[]int64{-15, 0}, -7, 0},
		{[]int64{-1, 0}, -1, 1},
		{[]int64{-1, 0}, 0, 0},
		{[]int64{8}, 8, 0},
		{[]int64{8}, 7, 1},
		{[]int64{-8}, -8, 0},
		{[]int64{-8}, -9, 1},
		{[]int64{0}, 0, 0},
		{[]int64{0}, -1, 1},
		{[]int64{api.MaxAmount - 1}, 0, api.MaxAmount - 1},
		{[]int64{api.MaxAmount}, 0, api.MaxAmount},
		{[]int64{api.MaxAmount + 1}, 0, api.MaxAmount},
		{[]int64{api.MaxAmount + 1}, 1, api.MaxAmount},
		{[]int64{api.MaxAmount + 1}, 2, api.MaxAmount - 1},
		{[]int64{math.MaxInt64}, math.MaxInt64, 1},
		{[]int64{math.MaxInt64}, math.MaxInt64 - 1, 2},
		{[]int64{math.MaxInt64}, math.MaxInt64 - api.MaxAmount + 2, api.MaxAmount - 1},
		{[]int64{math.MaxInt64}, math.MaxInt64 - api.MaxAmount + 1, api.MaxAmount},
		{[]int64{math.MaxInt64}, math.MaxInt64 - api.MaxAmount, api.MaxAmount},
		{[]int64{math.MaxInt64}, 0, api.MaxAmount},
		{[]int64{math.MaxInt64}, -1, api.MaxAmount},
		{[]int64{math.MaxInt64}, math.MinInt64, api.MaxAmount},
		{[]int64{math.MinInt64}, math.MinInt64, 0},
		{[]int64{math.MinInt64}, math.MinInt64 + 1, 0},
		{[]int64{math.MinInt64}, math.MaxInt64, 0},
		{[]int64{math.MinInt64 + 1024}, math.MinInt64, 1024},
		{[]int64{1<<53 + 1}, 1 << 53, 0}, // the average is the float's
		{[]int64{1<<53 + 3}, 1<<53 + 3, 1},
	} {
		advises(t, noted(t, 0.5, c.notes...), c.have, c.want)
	}
	tiny := noted(t, math.SmallestNonzeroFloat64, 0, 1)
	advises(t, tiny, 0, 1)
	advises(t, tiny, -1, 2)
	advises(t, tiny, 1, 0)
	tiny = noted(t, math.SmallestNonzeroFloat64, 0, -1)
	advises(t, tiny, 0, 0)
	advises(t, tiny, -1, 1)
}

func TestP18_5NothingInCommon(t *testing.T) {
	x, y := made(t, 0.5), made(t, 0.5)
	x.Note(10)
	x.Note(20)
	holds(t, y, 0, 0)
	advises(t, y, 0, 0)
	y.Note(4)
	holds(t, x, 15, 2)
	advises(t, x, 0, 15)
	z := made(t, 1)
	z.Note(1)
	z.Note(9)
	x.Note(25)
	holds(t, x, 20, 3)
	holds(t, y, 4, 1)
	holds(t, z, 9, 2)
}

func drawnWeight(random *rand.Rand) float64 {
	switch random.Intn(6) {
	case 0:
		return 1
	case 1:
		return math.Ldexp(1, -random.Intn(1075))
	case 2:
		return math.Nextafter(1, 0)
	case 3:
		return math.Float64frombits(1 + uint64(random.Int63n(0x3ff0000000000000)))
	}
	return 1 - random.Float64()
}

func drawnNote(random *rand.Rand, before int64) int64 {
	switch random.Intn(8) {
	case 0:
		return before
	case 1:
		return -before
	case 2:
		return int64(random.Uint64())
	case 3:
		return math.MaxInt64 - random.Int63n(3000)
	case 4:
		return math.MinInt64 + random.Int63n(3000)
	case 5:
		return int64(random.Uint64()) >> random.Intn(64)
	}
	return random.Int63n(41) - 20
}

func drawnHave(random *rand.Rand, average float64) int64 {
	near := int64(math.MaxInt64)
	if average < math.MaxInt64 {
		near = int64(average)
	}
	switch random.Intn(4) {
	case 0:
		return int64(random.Uint64())
	case 1:
		return near - random.Int63n(9) + 4 // it may wrap round: any number will do
	case 2:
		return near - api.MaxAmount + random.Int63n(9) - 4
	}
	return random.Int63n(41) - 20
}

// between holds P18.6's words against a walk that is going on.
func between(t *testing.T, x *trend.Trend, before float64, note, least, greatest int64) {
	t.Helper()
	a, y := x.Average(), float64(note)
	if math.IsNaN(a) || math.IsInf(a, 0) || !(float64(least) <= a && a <= float64(greatest)) {
		t.Fatalf("average %v of notes from %d to %d", a, least, greatest)
	}
	from, to := new(big.Rat).Sub(exact(y), exact(before)), new(big.Rat).Sub(exact(y), exact(a))
	if x.Count() > 1 && to.Abs(to).Cmp(from.Abs(from)) > 0 {
		t.Fatalf("from %v away to %v, though %v was noted", before, a, y)
	}
}

func TestP18_6Drawn(t *testing.T) {
	random, met := rand.New(rand.NewSource(186)), map[string]int{}
	for range 3000 {
		keep := drawnWeight(random)
		x, twin, m := made(t, keep), made(t, keep), model{weight: keep, met: met}
		note := drawnNote(random, 5)
		least, greatest := note, note
		for range 1 + random.Intn(30) {
			before := x.Average()
			least, greatest = min(least, note), max(greatest, note)
			x.Note(note)
			twin.Note(note)
			m.note(note)
			holds(t, x, m.average, m.count)
			holds(t, twin, m.average, m.count)
			between(t, x, before, note, least, greatest)
			have := drawnHave(random, m.average)
			advises(t, x, have, m.advice(have))
			if t.Failed() {
				t.Fatalf("weight %v, note %d", keep, note)
			}
			note = drawnNote(random, note)
		}
	}
	for _, what := range []string{"below the lesser", "above the greater", "does not move", "is there", "between", "enough", "the most", "lacks some"} {
		if met[what] < 100 {
			t.Errorf("%s: met %d times", what, met[what])
		}
	}
}

func TestP18_6AllAlike(t *testing.T) {
	for _, keep := range []float64{math.SmallestNonzeroFloat64, 0.1, 0.3, 1.0 / 3, math.Nextafter(1, 0), 1} {
		for _, n := range []int64{0, 1, -7, 1<<53 + 1, math.MaxInt64, math.MinInt64} {
			holds(t, noted(t, keep, n, n, n, n, n), float64(n), 5)
		}
	}
}

func TestExamples(t *testing.T) {
	x := made(t, 0.5)
	holds(t, x, 0, 0)
	advises(t, x, -3, 0)
	x.Note(10)
	holds(t, x, 10, 1)
	x.Note(20)
	holds(t, x, 15, 2)
	x.Note(0)
	holds(t, x, 7.5, 3)
	for have, want := range map[int64]int64{0: 8, 7: 1, 8: 0, -2: 10} {
		advises(t, x, have, want)
	}
	holds(t, noted(t, 0.1, 1, 2), 1.1, 2)
	holds(t, noted(t, 1, -(1<<53), 3), 3, 2)
	x = noted(t, 1, 1<<63-1)
	holds(t, x, 1<<63, 1)
	advises(t, x, 0, api.MaxAmount)
	advises(t, x, 1<<63-1, 1)
}

// TestR3ZeroValue: one that New has not made has no weight, and does not panic.
func TestR3ZeroValue(t *testing.T) {
	var x trend.Trend
	holds(t, &x, 0, 0)
	advises(t, &x, 5, 0)
	x.Note(3)
	x.Note(9)
	holds(t, &x, 3, 2)
	advises(t, &x, 1, 2)
}
