package journal_test

import (
	"math/rand"
	"strings"
	"testing"

	"till/api"
	"till/journal"
)

// row is a journal as its promises have it: the transactions in words and the next number.
type row struct {
	all  []string
	next uint64
}

func (r row) told() string { return strings.Join(r.all, " ") }

func (r row) with(parts [][]byte, checkpoint bool) row {
	one := told([][][]byte{parts})
	if checkpoint {
		return row{[]string{one}, r.next + 1}
	}
	return row{append(append([]string{}, r.all...), one), r.next + 1}
}

func drawnParts(r *rand.Rand) [][]byte {
	parts := [][]byte{}
	for range r.Intn(4) {
		b := make([]byte, []int{0, 1, 3, 200}[r.Intn(4)])
		for i := range b {
			b[i] = byte('a' + r.Intn(26))
		}
		parts = append(parts, b)
	}
	return parts
}

func drawnPicks(r *rand.Rand) []int {
	var picks []int
	for range r.Intn(5) {
		picks = append(picks, r.Intn(700)-10)
	}
	return picks
}

// TestP5_5Drawn: whatever calls, strokes and picks: behind an OK what the call leaves, behind a crash that or what was there ahead of it; and opening tells the same again behind a crash of what was opened.
func TestP5_5Drawn(t *testing.T) {
	const room = 1 << 16
	r := rand.New(rand.NewSource(5))
	for range 300 {
		d := loaded(t, room)
		j := opened(t, d, "j")
		want := row{next: 1}
		for range 40 {
			d.Plan(api.Plan{Off: r.Intn(12), FullFrom: r.Intn(12), FullTo: r.Intn(12)})
			parts, checkpoint := drawnParts(r), r.Intn(4) == 0
			keep := (*journal.Journal).Add
			if checkpoint {
				keep = (*journal.Journal).Checkpoint
			}
			e := keep(j, parts)
			after := want.with(parts, checkpoint)
			switch e {
			case api.OK:
				want = after
			case api.ErrDiskFull, api.ErrDiskOff:
			default:
				t.Fatalf("error %d", e)
			}
			if told(j.All()) != want.told() || j.Next() != want.next || j.Len() != len(want.all) {
				t.Fatalf("behind error %d: %q, Next %d; want %q, %d", e, told(j.All()), j.Next(), want.told(), want.next)
			}
			if e != api.ErrDiskOff && r.Intn(6) > 0 {
				continue
			}
			// Some crashes come while the power is on: between two calls.
			d = loaded(t, room, d.Crash(drawnPicks(r))...)
			j = opened(t, d, "j")
			if e == api.ErrDiskOff && told(j.All()) == after.told() && j.Next() == after.next {
				want = after
			}
			if told(j.All()) != want.told() || j.Next() != want.next {
				t.Fatalf("behind a crash: %q, Next %d; want %q, %d", told(j.All()), j.Next(), want.told(), want.next)
			}
			k := opened(t, loaded(t, room, d.Crash(drawnPicks(r))...), "j")
			tells(t, k, want.told(), want.next, j.Torn())
		}
	}
}

// TestP5_5EveryStroke goes through the strokes of one call and all that a crash there may keep.
func TestP5_5EveryStroke(t *testing.T) {
	for _, torn := range []int{0, 5, 20} {
		for off := 1; off <= 6; off++ {
			for _, checkpoint := range []bool{false, true} {
				for names := range 5 {
					for bytes := range 60 {
						d := loaded(t, 1000, file("j", rec(1, "a"), rec(2, "b")[:torn]), file("j.new", []byte("left")))
						j := opened(t, d, "j")
						d.Plan(api.Plan{Off: off})
						keep, want := j.Add, "[a] [s]"
						if checkpoint {
							keep, want = j.Checkpoint, "[s]"
						}
						e := keep(words("s"))
						k := opened(t, loaded(t, 1000, d.Crash([]int{names, bytes, bytes})...), "j")
						if g := told(k.All()); g != want && (e == api.OK || g != "[a]") {
							t.Fatalf("off %d, picks %d %d, error %d: %q", off, names, bytes, e, g)
						}
					}
				}
			}
		}
	}
}
