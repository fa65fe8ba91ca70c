package log

import (
	"slices"
	"sync"

	"till/act"
	"till/api"
)

const (
	partSize = 64 // entries of a part
	lookers  = 4  // goroutines that look at parts
)

// search is for the least place whose entry may not be by its form alone.
type search struct {
	config  api.Config
	parts   [][]api.Entry
	numbers chan int
	found   chan finding
	done    chan struct{}
}

// finding is what was seen in a part: its least place that may not be, if there is one.
type finding struct {
	part, place int
	bad, looked bool
}

// firstBad tells the least place whose entry may not be, if there is one. Which of the lookers is faster is not seen in it.
func firstBad(c api.Config, entries []api.Entry) (int, bool) {
	x := search{config: c, parts: slices.Collect(slices.Chunk(entries, partSize)), found: make(chan finding), done: make(chan struct{})}
	x.numbers = make(chan int, len(x.parts))
	for part := range x.parts {
		x.numbers <- part
	}
	close(x.numbers)
	var all sync.WaitGroup
	for range min(lookers, len(x.parts)) {
		all.Go(x.look)
	}
	first := x.first()
	close(x.done)
	all.Wait()
	return first.place, first.bad
}

// look takes parts till there are none left, or nobody wants to hear of them.
func (x search) look() {
	for {
		select {
		case part, more := <-x.numbers:
			if !more {
				return
			}
			seen := x.seen(part)
			select {
			case x.found <- seen:
			case <-x.done:
				return
			}
		case <-x.done:
			return
		}
	}
}

func (x search) seen(part int) finding {
	at := slices.IndexFunc(x.parts[part], func(e api.Entry) bool { return act.CheckEntry(x.config, e) != api.OK })
	if at < 0 {
		return finding{part: part, looked: true}
	}
	return finding{part: part, place: part*partSize + at, bad: true, looked: true}
}

// first waits for the parts in their order, whichever is told of first: a bad one counts only if all parts ahead of it are good, and nothing behind it is wanted then.
func (x search) first() finding {
	told := make([]finding, len(x.parts))
	for part := range x.parts {
		for !told[part].looked {
			seen := <-x.found
			told[seen.part] = seen
		}
		if told[part].bad {
			return told[part]
		}
	}
	return finding{}
}
