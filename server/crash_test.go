package server_test

import (
	"fmt"
	"testing"

	"till/act"
	"till/api"
	"till/book"
	"till/disk"
	"till/server"
)

// nearCheckpoint is a rig whose journal has so many transactions, and whose log has some entries.
func nearCheckpoint(t *testing.T, length int) *rig {
	t.Helper()
	c := conf()
	r := newRig(t, c, emptyDisk(t))
	r.act(ask(0, 1, 1))
	r.act(ask(1, 1, 1))
	for n := 3; n < length; n++ {
		r.s = started(t, c, r.d)
	}
	r.tills = []peer{{life: 2}, {life: 2}}
	if g := len(transactions(t, r.d)); g != length {
		t.Fatalf("%d transactions", g)
	}
	return r
}

// picksOf are some picks for a row of name changes and two files.
func picksOf() [][]int {
	var out [][]int
	for names := range 4 {
		for _, one := range []int{0, -1, 1, 13, -2} {
			for _, two := range []int{0, -1, 9} {
				out = append(out, []int{names, one, two})
			}
		}
	}
	return out
}

// The power goes off at each stroke of keeping an entry, by a record of its own and by a checkpoint, also over a checkpoint that was left half way.
func TestP15_7EachStroke(t *testing.T) {
	for _, length := range []int{3, api.MaxRecords - 1, api.MaxRecords} {
		for _, rest := range []string{"", "left from before"} {
			for off := 1; ; off++ {
				r := nearCheckpoint(t, length)
				if rest != "" {
					r.d.Append("server.new", []byte(rest))
					r.d.Sync("server.new")
					r.d.SyncNames()
				}
				life, before := r.s.Life(), r.s.Log()
				next := granted(3, ask(0, 2, 1), 1)
				r.d.Plan(api.Plan{Off: off})
				f := r.frame(0)
				f.Seq, f.Body = 1, r.made(act.Body{Kind: act.BodyAct, Act: next.Act})
				if off > strokesOf(length, rest) {
					r.hears(f, api.OK)
					r.has(append(before, next)...)
					break
				}
				r.hears(f, api.ErrServerDown)
				if text(r.s.Log()) != text(before) || r.s.Life() != life {
					t.Fatalf("%d, stroke %d: %+v", length, off, r.s.Log())
				}
				leaves(t, fmt.Sprint(length, rest, off), r, life, before, next)
			}
		}
	}
}

// strokesOf tells how many strokes keeping an entry takes.
func strokesOf(length int, rest string) int {
	if length < api.MaxRecords {
		return 2 // Append, Sync
	}
	if rest == "" {
		return 4 // Append, Sync, Rename, SyncNames
	}
	return 5 // a Remove ahead
}

// leaves: whatever a crash leaves is the log as it was, or with the entry that was under way; and a start over it goes on.
func leaves(t *testing.T, what string, r *rig, life uint64, before []api.Entry, next api.Entry) {
	t.Helper()
	found := map[int]int{}
	for _, picks := range picksOf() {
		d := left(t, r.d, picks...)
		l, last, ok := server.Kept(r.c, d)
		if !ok || last != life || text(l) != text(append(before, next)[:len(l)]) || len(l) < len(before) {
			t.Fatalf("%s, %v: Kept: %+v, %d, %v", what, picks, l, last, ok)
		}
		found[len(l)]++
		s := started(t, r.c, d)
		if s.Life() != life+1 || text(s.Log()) != text(l) || text(s.State()) != text(folded(t, r.c, l)) {
			t.Fatalf("%s, %v: life %d, %+v", what, picks, s.Life(), s.Log())
		}
		again := &rig{t: t, c: r.c, d: d, s: s, tills: []peer{{life: 3}, {life: 3}}}
		again.act(ask(1, 2, 1))
		again.length(len(l) + 1)
	}
	if found[len(before)] == 0 {
		t.Errorf("%s: no picks leave the log as it was: %v", what, found)
	}
}

// The longest entries that there are, up to a full log, on a disk of a node: nothing is refused, and all of them are streamed.
func TestP15_6Sizes(t *testing.T) {
	c := api.Config{Tills: api.MaxTills, Lease: 1, Watch: api.MaxTicks, Beat: 1, Window: api.MaxWindow, Cap: 1, Flight: 1}
	var rights []api.Right
	for i := range api.MaxCounters {
		c.Counters = append(c.Counters, api.Counter{Name: fmt.Sprint("c", i), Lo: -api.MaxBound, Hi: api.MaxBound})
		rights = append(rights, api.Right{Counter: i, Way: api.Down, N: api.MaxHeld}, api.Right{Counter: i, Way: api.Up, N: api.MaxHeld})
	}
	d, _ := disk.New(api.NodeRoom)
	r := newRig(t, c, d)
	r.hello(7, 0)
	s := book.First(c)
	for number := uint64(1); number <= api.MaxLog; number++ {
		a := yield(7, number, api.MaxNumber, rights...)
		r.act(a)
		if number%200 > 1 && number < api.MaxLog-5 {
			continue
		}
		if r.length(int(number)); len(transactions(t, d)) > api.MaxRecords {
			t.Fatalf("%d transactions", len(transactions(t, d)))
		}
	}
	b, errno := act.EncodeEntry(c, r.s.Log()[api.MaxLog-1])
	if errno != api.OK || len(b) < 1290 {
		t.Errorf("the last entry has %d bytes", len(b))
	}
	if g := r.s.State(); g.Position != api.MaxLog || text(g.Pools) != text(s.Pools) {
		t.Errorf("position %d", g.Position)
	}
	r.tells(func(to int) bool { return to == 7 }, "7:1/2049@1 7:2/2049@2 7:3/2049@3 7:4/2049@4 7:5/2049@5 7:6/2049@6 7:7/2049@7 7:8/2049@8 7:9/2049@9 7:10/2049@10 7:11/2049@11 7:12/2049@12 7:13/2049@13 7:14/2049@14 7:15/2049@15 7:16/2049@16")
	if got := started(t, c, left(t, d)); len(got.Log()) != api.MaxLog || got.Life() != 2 {
		t.Errorf("%d entries", len(got.Log()))
	}
}
