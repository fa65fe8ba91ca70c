package sum_test

import (
	"math"
	"math/big"
	"math/rand"
	"slices"
	"testing"

	"till/api"
	"till/sum"
)

const (
	least = math.MinInt64
	most  = math.MaxInt64
)

type answer struct {
	n  int64
	ok bool
}

func told(n int64, ok bool) answer { return answer{n, ok} }

// exact is what a call has to tell of a number that was worked out without bounds.
func exact(n *big.Int) answer {
	if !n.IsInt64() {
		return answer{}
	}
	return answer{n.Int64(), true}
}

func whole(a int64) *big.Int { return big.NewInt(a) }

// edges are the numbers next to each power of two, to the ends of the type and to the root of the greatest, on both sides of 0.
func edges() []int64 {
	l := []int64{0, least, least + 1, least + 2, most, most - 1}
	for shift := range 63 {
		l = append(l, 1<<shift)
	}
	l = append(l, 3, 7, 10, 3037000499, 3037000500)
	for _, a := range slices.Clone(l) {
		for step := int64(-1); step <= 1; step++ {
			l = append(l, a+step, -(a + step))
		}
	}
	slices.Sort(l)
	return slices.Compact(l)
}

// drawn tells numbers of all sizes.
func drawn(r *rand.Rand) int64 { return int64(r.Uint64()) >> r.Intn(64) }

// pairs calls f with each two of the edges, and with drawn numbers.
func pairs(f func(a, b int64)) {
	l := edges()
	for _, a := range l {
		for _, b := range l {
			f(a, b)
		}
	}
	r := rand.New(rand.NewSource(31))
	for range 20000 {
		f(drawn(r), drawn(r))
	}
}

func TestP3_1Examples(t *testing.T) {
	for i, c := range []struct{ have, want answer }{
		{told(sum.Add(1<<62, 1<<62)), answer{}},
		{told(sum.Add(1<<62, 1<<62-1)), answer{most, true}},
		{told(sum.Add(least, most)), answer{-1, true}},
		{told(sum.Add(least, least)), answer{}},
		{told(sum.Add(-(1 << 62), -(1 << 62))), answer{least, true}},
		{told(sum.Sub(0, least)), answer{}},
		{told(sum.Sub(-1, least)), answer{most, true}},
		{told(sum.Sub(least, least)), answer{0, true}},
		{told(sum.Sub(least, 1)), answer{}},
		{told(sum.Neg(least)), answer{}},
		{told(sum.Neg(most)), answer{-most, true}},
		{told(sum.Neg(-most)), answer{most, true}},
		{told(sum.Neg(0)), answer{0, true}},
		{told(sum.Mul(1<<32, 1<<31)), answer{}},
		{told(sum.Mul(-(1 << 32), 1<<31)), answer{least, true}},
		{told(sum.Mul(-1, least)), answer{}},
		{told(sum.Mul(0, least)), answer{0, true}},
		{told(sum.Mul(least, least)), answer{}},
		{told(sum.Mul(1<<32, 1<<32)), answer{}},
		{told(sum.Mul(1<<32, -(1 << 32))), answer{}},
	} {
		if c.have != c.want {
			t.Errorf("line %d: %v, want %v", i, c.have, c.want)
		}
	}
}

func TestP3_1AsExactNumbers(t *testing.T) {
	pairs(func(a, b int64) {
		if g, w := told(sum.Add(a, b)), exact(new(big.Int).Add(whole(a), whole(b))); g != w {
			t.Errorf("Add(%d, %d): %v, want %v", a, b, g, w)
		}
		if g, w := told(sum.Sub(a, b)), exact(new(big.Int).Sub(whole(a), whole(b))); g != w {
			t.Errorf("Sub(%d, %d): %v, want %v", a, b, g, w)
		}
		if g, w := told(sum.Mul(a, b)), exact(new(big.Int).Mul(whole(a), whole(b))); g != w {
			t.Errorf("Mul(%d, %d): %v, want %v", a, b, g, w)
		}
		if g, w := told(sum.Neg(a)), exact(new(big.Int).Neg(whole(a))); g != w {
			t.Errorf("Neg(%d): %v, want %v", a, g, w)
		}
	})
}

func TestP3_2Examples(t *testing.T) {
	for i, c := range []struct {
		l    []int64
		want answer
	}{
		{nil, answer{0, true}},
		{[]int64{}, answer{0, true}},
		{[]int64{-9}, answer{-9, true}},
		{[]int64{least}, answer{least, true}},
		{[]int64{most, most, least, least}, answer{-2, true}},
		{[]int64{least, least, most, most}, answer{-2, true}},
		{[]int64{most, 1}, answer{}},
		{[]int64{most, 1, -1}, answer{most, true}},
		{[]int64{least, -1}, answer{}},
		{[]int64{least, -1, 1}, answer{least, true}},
		{[]int64{least, least}, answer{}},
		{[]int64{most, most, 2}, answer{}},
		{[]int64{1 << 62, 1 << 62, 1 << 62, 1 << 62}, answer{}},
	} {
		if g := told(sum.Total(c.l...)); g != c.want {
			t.Errorf("line %d: %v, want %v", i, g, c.want)
		}
	}
	if g := told(sum.Total()); g != (answer{0, true}) {
		t.Errorf("Total(): %v", g)
	}
}

func bigTotal(l []int64) *big.Int {
	total := new(big.Int)
	for _, a := range l {
		total.Add(total, whole(a))
	}
	return total
}

func TestP3_2AsExactNumbers(t *testing.T) {
	r := rand.New(rand.NewSource(32))
	l := edges()
	for range 20000 {
		var list []int64
		for range r.Intn(9) {
			if r.Intn(2) == 0 {
				list = append(list, l[r.Intn(len(l))])
			} else {
				list = append(list, drawn(r))
			}
		}
		if n := bigTotal(list); n.IsInt64() && r.Intn(2) == 0 {
			list = append(list, -n.Int64(), []int64{least, most}[r.Intn(2)], int64(r.Intn(3)-1)) // the total lies at an end of the type, or just beyond it
		}
		if g, w := told(sum.Total(list...)), exact(bigTotal(list)); g != w {
			t.Errorf("Total(%v): %v, want %v", list, g, w)
		}
	}
}

// Many more than two of the greatest: their sum wraps round 64 bits often, and may come to rest on any number.
func TestP3_2LongLists(t *testing.T) {
	for _, a := range []int64{least, most, 1 << 62, -(1 << 62)} {
		for _, n := range []int{2, 3, 4, 5, 8, 1 << 10, 1<<16 + 1} {
			list := slices.Repeat([]int64{a}, n)
			if g := told(sum.Total(list...)); g != exact(bigTotal(list)) {
				t.Errorf("Total of %d times %d: %v", n, a, g)
			}
			list = append(list, slices.Repeat([]int64{-(a + 1)}, n)...)
			if g := told(sum.Total(list...)); g != (answer{-int64(n), true}) {
				t.Errorf("Total of %d times %d and its turned bits: %v", n, a, g)
			}
		}
	}
}

func TestP3_2LeavesTheList(t *testing.T) {
	l := []int64{most, most, least, 5, 9}
	sum.Total(l[:4]...)
	if !slices.Equal(l, []int64{most, most, least, 5, 9}) {
		t.Errorf("the list is another one: %v", l)
	}
}

func TestP3_3Amount(t *testing.T) {
	for _, a := range edges() {
		if g, w := sum.Amount(a), new(big.Int).Abs(whole(a)).Uint64(); g != w {
			t.Errorf("Amount(%d): %d, want %d", a, g, w)
		}
	}
	if g := sum.Amount(least); g != 1<<63 {
		t.Errorf("Amount of the least: %d", g)
	}
}

func TestP3_3CutExamples(t *testing.T) {
	for _, c := range []struct{ change, room, want int64 }{
		{5, 3, 3}, {-5, 3, -3}, {-2, 3, -2}, {2, 3, 2}, {3, 3, 3}, {-3, 3, -3},
		{least, most, -most}, {most, most, most}, {4, -1, 0}, {-4, -1, 0}, {4, 0, 0}, {-4, 0, 0},
		{least, 0, 0}, {least, least, 0}, {most, least, 0}, {0, least, 0}, {0, 0, 0}, {0, most, 0}, {-1, most, -1},
	} {
		if g := sum.Cut(c.change, c.room); g != c.want {
			t.Errorf("Cut(%d, %d): %d, want %d", c.change, c.room, g, c.want)
		}
	}
}

func TestP3_3CutAsItIsSaid(t *testing.T) {
	pairs(func(change, room int64) {
		left := whole(max(room, 0))
		want := whole(change)
		if new(big.Int).Abs(want).Cmp(left) > 0 {
			want.Mul(left, whole(int64(want.Sign())))
		}
		if g := sum.Cut(change, room); g != want.Int64() {
			t.Errorf("Cut(%d, %d): %d, want %d", change, room, g, want)
		}
	})
}

func TestP3_4New(t *testing.T) {
	pairs(func(lo, hi int64) {
		r, e := sum.New(lo, hi)
		if lo > hi {
			if r != nil || e != api.ErrSumRange {
				t.Errorf("New(%d, %d): %v, %d", lo, hi, r, e)
			}
			return
		}
		if r == nil || e != api.OK {
			t.Errorf("New(%d, %d): %v, %d", lo, hi, r, e)
		}
	})
}

// made makes a range that may be.
func made(t *testing.T, lo, hi int64) *sum.Range {
	t.Helper()
	r, e := sum.New(lo, hi)
	if e != api.OK || r == nil {
		t.Fatalf("New(%d, %d): %v, %d", lo, hi, r, e)
	}
	return r
}

func TestP3_4NeverChanges(t *testing.T) {
	r, other := made(t, -2, 7), made(t, 100, 200)
	if r == made(t, -2, 7) {
		t.Error("two ranges are one object")
	}
	ask := func() []answer {
		return []answer{
			{r.Near(least), r.Has(-2)}, {r.Near(most), r.Has(7)}, {0, r.Has(-3)}, {0, r.Has(8)},
			told(r.Move(-2, 9)), told(r.Move(7, 1)),
			{int64(r.Slack(0, api.Down)), true}, {int64(r.Slack(0, api.Up)), true},
		}
	}
	first := ask()
	for range 3 {
		other.Move(150, 7)
		other.Near(0)
		if again := ask(); !slices.Equal(first, again) {
			t.Fatalf("%v, then %v", first, again)
		}
	}
}

func TestP3_5Examples(t *testing.T) {
	r := made(t, -2, 7)
	for a, want := range map[int64]bool{-2: true, 7: true, 0: true, 8: false, -3: false, least: false, most: false} {
		if g := r.Has(a); g != want {
			t.Errorf("Has(%d): %v", a, g)
		}
	}
	for a, want := range map[int64]int64{9: 7, -5: -2, 3: 3, 7: 7, -2: -2, least: -2, most: 7} {
		if g := r.Near(a); g != want {
			t.Errorf("Near(%d): %d", a, g)
		}
	}
	for _, c := range []struct {
		a, change int64
		want      answer
	}{
		{7, -9, answer{-2, true}}, {-2, 9, answer{7, true}}, {7, 0, answer{7, true}}, {2, -2, answer{0, true}},
		{7, 1, answer{}}, {8, -1, answer{}}, {-3, 1, answer{}}, {-2, -1, answer{}}, {7, most, answer{}}, {-2, least, answer{}}, {8, 0, answer{}}, {most, least, answer{}},
	} {
		if g := told(r.Move(c.a, c.change)); g != c.want {
			t.Errorf("Move(%d, %d): %v, want %v", c.a, c.change, g, c.want)
		}
	}
	for _, c := range []struct {
		a    int64
		way  int
		want uint64
	}{
		{3, api.Down, 5}, {3, api.Up, 4}, {-2, api.Down, 0}, {-2, api.Up, 9}, {7, api.Down, 9}, {7, api.Up, 0},
		{8, api.Down, 0}, {8, api.Up, 0}, {-3, api.Down, 0}, {-3, api.Up, 0}, {3, 2, 0}, {3, -1, 0}, {3, most, 0}, {3, least, 0},
	} {
		if g := r.Slack(c.a, c.way); g != c.want {
			t.Errorf("Slack(%d, %d): %d, want %d", c.a, c.way, g, c.want)
		}
	}
	all := made(t, least, most)
	if d, u := all.Slack(most, api.Down), all.Slack(least, api.Up); d != math.MaxUint64 || u != math.MaxUint64 {
		t.Errorf("slacks of the range of all: %d, %d", d, u)
	}
	if g := told(all.Move(most, 1)); g != (answer{}) {
		t.Errorf("Move beyond the greatest: %v", g)
	}
}

// ranges calls f with ranges at the ends of the type, around 0 and of one number, and with numbers about their ends.
func ranges(t *testing.T, f func(r *sum.Range, lo, hi, a int64)) {
	ends := []int64{least, least + 1, -(1 << 53), -2, -1, 0, 1, 7, 1 << 53, most - 1, most}
	numbers := edges()
	for _, e := range ends {
		for step := int64(-2); step <= 2; step++ {
			numbers = append(numbers, e+step)
		}
	}
	for i, lo := range ends {
		for _, hi := range ends[i:] {
			r := made(t, lo, hi)
			for _, a := range numbers {
				f(r, lo, hi, a)
			}
		}
	}
}

func TestP3_5AsExactNumbers(t *testing.T) {
	ranges(t, func(r *sum.Range, lo, hi, a int64) {
		in := lo <= a && a <= hi
		near := a
		if a < lo {
			near = lo
		}
		if a > hi {
			near = hi
		}
		var down, up uint64
		if in {
			down = new(big.Int).Sub(whole(a), whole(lo)).Uint64()
			up = new(big.Int).Sub(whole(hi), whole(a)).Uint64()
		}
		if g := r.Has(a); g != in {
			t.Errorf("%d to %d: Has(%d): %v", lo, hi, a, g)
		}
		if g := r.Near(a); g != near {
			t.Errorf("%d to %d: Near(%d): %d", lo, hi, a, g)
		}
		if g := r.Slack(a, api.Down); g != down {
			t.Errorf("%d to %d: Slack(%d, Down): %d", lo, hi, a, g)
		}
		if g := r.Slack(a, api.Up); g != up {
			t.Errorf("%d to %d: Slack(%d, Up): %d", lo, hi, a, g)
		}
	})
}

func TestP3_5MoveAsExactNumbers(t *testing.T) {
	changes := []int64{least, least + 1, -(1 << 53), -9, -2, -1, 0, 1, 2, 9, 1 << 53, most - 1, most}
	ranges(t, func(r *sum.Range, lo, hi, a int64) {
		for _, change := range changes {
			moved := new(big.Int).Add(whole(a), whole(change))
			want := answer{}
			if lo <= a && a <= hi && moved.Cmp(whole(lo)) >= 0 && moved.Cmp(whole(hi)) <= 0 {
				want = answer{moved.Int64(), true}
			}
			if g := told(r.Move(a, change)); g != want {
				t.Errorf("%d to %d: Move(%d, %d): %v, want %v", lo, hi, a, change, g, want)
			}
		}
	})
}

func TestP3_6OrderAndBack(t *testing.T) {
	pairs(func(a, b int64) {
		n, ok := sum.Add(a, b)
		if told(n, ok) != told(sum.Add(b, a)) || told(n, ok) != told(sum.Total(a, b)) || told(n, ok) != told(sum.Total(b, a)) {
			t.Errorf("Add(%d, %d) hangs on the order", a, b)
		}
		if told(sum.Mul(a, b)) != told(sum.Mul(b, a)) {
			t.Errorf("Mul(%d, %d) hangs on the order", a, b)
		}
		if back := told(sum.Sub(n, b)); ok && back != (answer{a, true}) {
			t.Errorf("Add(%d, %d) and Sub: %v", a, b, back)
		}
	})
}

func TestP3_6TotalInEachOrder(t *testing.T) {
	r := rand.New(rand.NewSource(36))
	for range 3000 {
		l := []int64{most, least, drawn(r), drawn(r), drawn(r), int64(r.Uint64())}
		first := told(sum.Total(l...))
		for range 8 {
			r.Shuffle(len(l), func(i, j int) { l[i], l[j] = l[j], l[i] })
			if again := told(sum.Total(l...)); again != first {
				t.Errorf("Total(%v): %v, in another order %v", l, again, first)
			}
		}
	}
}

func TestP3_6MoveBackAndSlacks(t *testing.T) {
	ranges(t, func(r *sum.Range, lo, hi, a int64) {
		for _, change := range []int64{least, -9, -1, 0, 1, 9, 1 << 53, most} {
			moved, ok := r.Move(a, change)
			opposite, turned := sum.Neg(change)
			if back := told(r.Move(moved, opposite)); ok && turned && back != (answer{a, true}) {
				t.Errorf("%d to %d: Move(%d, %d) and back: %v", lo, hi, a, change, back)
			}
		}
		if r.Has(a) && r.Slack(a, api.Down)+r.Slack(a, api.Up) != uint64(hi)-uint64(lo) {
			t.Errorf("%d to %d: the slacks of %d", lo, hi, a)
		}
	})
}

func TestP3_6CutKeepsItsSide(t *testing.T) {
	pairs(func(change, room int64) {
		g := sum.Cut(change, room)
		if g > 0 && change <= 0 || g < 0 && change >= 0 {
			t.Errorf("Cut(%d, %d) is %d, on the other side", change, room, g)
		}
		if want := min(sum.Amount(change), uint64(max(room, 0))); sum.Amount(g) != want {
			t.Errorf("the amount of Cut(%d, %d) is %d, want %d", change, room, sum.Amount(g), want)
		}
	})
}
