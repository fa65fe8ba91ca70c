package report_test

import (
	"fmt"
	"math/rand"
	"slices"
	"testing"

	"till/api"
	"till/report"
)

// roomy is a list with spare room that holds something.
func roomy[T any](list []T, fill T) []T {
	out := append(slices.Clone(list), fill, fill, fill)
	return out[:len(list)]
}

// whole is what a list and its spare room hold.
func whole[T any](list []T) string { return fmt.Sprintf("%+v", list[:cap(list)]) }

// scribble fills a list and its spare room with something else.
func scribble[T any](list []T, with T) {
	list = list[:cap(list)]
	for i := range list {
		list[i] = with
	}
}

func wholeEntries(entries []api.Entry) string {
	out := whole(entries)
	for _, e := range entries {
		out += whole(e.Made) + whole(e.Sets) + wholeActs([]api.Act{e.Act})
	}
	return out
}

func wholeActs(acts []api.Act) string {
	out := whole(acts)
	for _, a := range acts {
		out += whole(a.Lines) + whole(a.Guards) + whole(a.Sets) + whole(a.Merge.Other) + whole(a.Rights)
	}
	return out
}

// roomyOnes are entries and acts that share their lists with one another.
func (r chance) roomyOnes() ([]api.Entry, []api.Act) {
	entries, pending := r.raw()
	lines, sets := roomy(r.rawLines(), line(9, 9)), roomy(r.rawSets(), api.Set{Price: 9})
	for i := range entries {
		entries[i].Made, entries[i].Sets = lines, sets
		entries[i].Act.Lines, entries[i].Act.Sets = lines, sets
	}
	for i := range pending {
		pending[i].Lines, pending[i].Sets = lines, sets
	}
	return roomy(entries, api.Entry{N: 9, Act: write(0, 9)}), roomy(pending, write(0, 9))
}

func scribbleItems(items []api.Item) {
	for _, x := range items {
		scribble(x.Made, line(-9, -9))
		scribble(x.Sets, api.Set{Price: -9})
	}
	scribble(items, api.Item{Number: 99})
}

// What was handed in stays as it was, also when an answer is written into; an answer follows neither it nor another answer.
func TestR2Memory(t *testing.T) {
	r := chance{rand.New(rand.NewSource(2))}
	for range 1500 {
		entries, pending := r.roomyOnes()
		c := shelves(4)
		c.Counters = roomy(c.Counters, api.Counter{Name: "spare"})
		till := r.Intn(3)
		ahead := wholeEntries(entries) + wholeActs(pending) + whole(c.Counters)
		items, sums, lines := report.Of(entries, pending, till), report.Sums(c, entries), report.Moved(entries, till)
		kept := text(items) + text(sums) + text(lines)
		scribbleItems(report.Of(entries, pending, till))
		scribble(report.Sums(c, entries), -9)
		scribble(report.Moved(entries, till), line(-9, -9))
		report.Count(entries, till)
		if wholeEntries(entries)+wholeActs(pending)+whole(c.Counters) != ahead {
			t.Fatalf("what was handed in was changed: %+v, %+v, %+v", entries, pending, c)
		}
		for _, e := range entries {
			scribble(e.Made, line(-9, -9))
			scribble(e.Sets, api.Set{Price: -9})
		}
		scribble(entries, api.Entry{N: -9})
		scribble(pending, api.Act{Kind: -9})
		scribble(c.Counters, api.Counter{Name: "another"})
		if text(items)+text(sums)+text(lines) != kept {
			t.Fatalf("%s became %+v, %+v, %+v", kept, items, sums, lines)
		}
	}
}

// The lists of one answer are apart, spare room too, though those of the entries are one.
func TestR2ListsApart(t *testing.T) {
	made, sets := roomy([]api.Line{line(0, 1), line(1, 2), line(0, 3)}, line(9, 9)), roomy([]api.Set{{N: 1}}, api.Set{N: 9})
	ahead := whole(made) + whole(sets)
	var entries []api.Entry
	for i := range 5 {
		e := entry(write(0, uint64(i)), api.Applied, made...)
		e.Sets = sets
		entries = append(entries, e)
	}
	entries = append(entries, entry(write(0, 5), api.Applied, made[:0]...))
	items := report.Of(entries, []api.Act{write(0, 6)}, 0)
	for i := range items {
		want := text(slices.Delete(slices.Clone(items), i, i+1))
		scribble(items[i].Made, line(-9, -9))
		scribble(items[i].Sets, api.Set{N: -9})
		if got := text(slices.Delete(slices.Clone(items), i, i+1)); got != want {
			t.Errorf("with the lists of item %d others have changed from %s to %s", i, want, got)
		}
	}
	same(t, "what was handed in", whole(made)+whole(sets), ahead)
}
