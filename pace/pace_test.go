package pace_test

import (
	"math"
	"math/rand"
	"slices"
	"testing"

	"till/api"
	"till/pace"
)

func made(t *testing.T, most int) *pace.Pace {
	t.Helper()
	p, e := pace.New(most)
	if p == nil || e != api.OK {
		t.Fatalf("New(%d): %v, %d", most, p, e)
	}
	return p
}

func waits(t *testing.T, p *pace.Pace, want int) {
	t.Helper()
	if g := p.Wait(); g != want {
		t.Errorf("Wait: %d, want %d", g, want)
	}
}

func ticks(t *testing.T, p *pace.Pace, want bool, left int) {
	t.Helper()
	if g := p.Tick(); g != want {
		t.Errorf("Tick: %v, want %v", g, want)
	}
	waits(t, p, left)
}

// times tells at which of so many ticks, counted from 1, it was time.
func times(p *pace.Pace, count int) []int {
	var at []int
	for i := range count {
		if p.Tick() {
			at = append(at, i+1)
		}
	}
	return at
}

// planned are the times within so many ticks behind a beginning, as P7.4 tells them.
func planned(most, count int) []int {
	var at []int
	gap := 1
	for tick := 1; tick <= count; tick += gap {
		if at = append(at, tick); len(at) > 1 {
			gap = min(2*gap, most)
		}
	}
	return at
}

func TestP7_1_New(t *testing.T) {
	for _, most := range []int{0, -1, api.MaxCap + 1, 1 << 40, math.MinInt, math.MaxInt} {
		if p, e := pace.New(most); p != nil || e != api.ErrPaceCap {
			t.Errorf("New(%d): %v, %d", most, p, e)
		}
	}
	for most := 1; most <= api.MaxCap; most++ {
		p := made(t, most)
		waits(t, p, 0)
		ticks(t, p, true, 1) // the gap was 1
	}
}

func TestP7_2_Tick(t *testing.T) {
	p := made(t, 6)
	for _, step := range []struct {
		time bool
		left int
	}{
		{true, 1},
		{true, 2}, {false, 1},
		{true, 4}, {false, 3}, {false, 2}, {false, 1},
		{true, 6}, {false, 5}, {false, 4}, {false, 3}, {false, 2}, {false, 1},
		{true, 6},
	} {
		ticks(t, p, step.time, step.left)
	}
}

func TestP7_2_SmallCaps(t *testing.T) {
	one := made(t, 1)
	for range 10 {
		ticks(t, one, true, 1)
	}
	two := made(t, 2)
	ticks(t, two, true, 1)
	for range 10 {
		ticks(t, two, true, 2)
		ticks(t, two, false, 1)
	}
	three := made(t, 3)
	if g, want := times(three, 14), []int{1, 2, 4, 7, 10, 13}; !slices.Equal(g, want) {
		t.Errorf("cap 3: %v, want %v", g, want)
	}
}

func TestP7_3_Reset(t *testing.T) {
	for _, most := range []int{1, 2, 3, 5, 8, api.MaxCap} {
		for count := range 3 * most {
			p := made(t, most)
			p.Reset() // nothing has begun yet
			waits(t, p, 0)
			times(p, count)
			p.Reset()
			waits(t, p, 0)
			p.Reset() // once more is no other than once
			waits(t, p, 0)
			if g, want := times(p, 4*most), planned(most, 4*most); !slices.Equal(g, want) {
				t.Fatalf("cap %d, %d ticks, Reset: %v, want %v", most, count, g, want)
			}
		}
	}
}

func TestP7_3_WaitTellsTheNextTime(t *testing.T) {
	for most := 1; most <= api.MaxCap; most++ {
		p := made(t, most)
		for tick := range 6 * most {
			wait := p.Wait()
			if p.Wait() != wait { // it only tells
				t.Fatalf("cap %d, tick %d: Wait changes", most, tick)
			}
			if wait < 0 || wait > most || p.Tick() != (wait <= 1) {
				t.Fatalf("cap %d, tick %d: Wait was %d", most, tick, wait)
			}
		}
	}
}

func TestP7_4_TimesOfEveryCap(t *testing.T) {
	for most := 1; most <= api.MaxCap; most++ {
		p := made(t, most)
		if g, want := times(p, 1000), planned(most, 1000); !slices.Equal(g, want) {
			t.Errorf("cap %d: %v, want %v", most, g, want)
		}
	}
	p := made(t, api.MaxCap)
	want := []int{1, 2, 4, 8, 16, 32, 64, 128, 192, 256}
	if g := times(p, 300); !slices.Equal(g, want) {
		t.Errorf("cap %d: %v, want %v", api.MaxCap, g, want)
	}
}

func TestP7_4_DrawnRows(t *testing.T) {
	for seed := range int64(300) {
		draw := rand.New(rand.NewSource(seed))
		most := 1 + draw.Intn(api.MaxCap)
		p := made(t, most)
		for range 40 {
			count, quiet, told := draw.Intn(4*most), 0, 0
			for tick := range count {
				if p.Tick() {
					quiet = 0
					told++
				} else if quiet++; quiet >= most {
					t.Fatalf("seed %d, tick %d: %d ticks in a row answer false", seed, tick, quiet)
				}
			}
			if told < count/most {
				t.Fatalf("seed %d: %d of %d ticks answer true", seed, told, count)
			}
			if draw.Intn(2) == 0 {
				p.Reset()
				if !p.Tick() {
					t.Fatalf("seed %d: the first Tick behind a Reset: false", seed)
				}
			}
		}
	}
}

func TestP7_4_TwoPaces(t *testing.T) {
	a, b, c := made(t, 8), made(t, 8), made(t, 2)
	for range 20 {
		a.Tick()
	}
	waits(t, b, 0)
	waits(t, c, 0)
	left := a.Wait()
	if g, want := times(b, 40), planned(8, 40); !slices.Equal(g, want) {
		t.Errorf("cap 8: %v, want %v", g, want)
	}
	if g, want := times(c, 40), planned(2, 40); !slices.Equal(g, want) {
		t.Errorf("cap 2: %v, want %v", g, want)
	}
	waits(t, a, left)
	b.Reset()
	waits(t, a, left)
}

func TestP7_4_CopyHasNothingInCommon(t *testing.T) {
	a := made(t, 8)
	times(a, 5)
	b := *a
	if g, want := times(&b, 12), []int{3, 11}; !slices.Equal(g, want) {
		t.Errorf("the copy: %v, want %v", g, want)
	}
	waits(t, a, 3)
	if g, want := times(a, 12), []int{3, 11}; !slices.Equal(g, want) {
		t.Errorf("the first one: %v, want %v", g, want)
	}
}

func TestZeroPaceIsAlwaysDue(t *testing.T) {
	p := &pace.Pace{}
	waits(t, p, 0)
	for range 3 {
		for range 5 {
			if !p.Tick() || p.Wait() > 1 {
				t.Errorf("a pace that New has not made waits for %d", p.Wait())
			}
		}
		p.Reset()
		waits(t, p, 0)
	}
}

func TestExample(t *testing.T) {
	p := made(t, 5)
	if g, want := times(p, 23), []int{1, 2, 4, 8, 13, 18, 23}; !slices.Equal(g, want) {
		t.Errorf("cap 5: %v, want %v", g, want)
	}
	p = made(t, 5)
	ticks(t, p, true, 1)
	ticks(t, p, true, 2)
	ticks(t, p, false, 1)
	ticks(t, p, true, 4)
	p.Reset()
	waits(t, p, 0)
	ticks(t, p, true, 1)
}
