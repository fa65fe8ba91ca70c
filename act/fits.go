package act

import (
	"slices"

	"till/api"
	"till/text"
)

// beatRoom is by how many ticks a watch is longer than a beat: a word's way, and some to spare.
const beatRoom = 4

// Fits tells whether a configuration may be.
func Fits(c api.Config) api.Errno {
	fits := within(c.Tills, 1, api.MaxTills) && countersFit(c.Counters) && pricesFit(c.Prices) && ticksFit(c) &&
		within(c.Window, 1, api.MaxWindow) && within(c.Cap, 1, api.MaxCap) && within(c.Flight, 1, api.MaxFlight)
	if !fits {
		return api.ErrActConfig
	}
	return api.OK
}

func countersFit(counters []api.Counter) bool {
	if !within(len(counters), 1, api.MaxCounters) {
		return false
	}
	var names []string
	for _, x := range counters {
		if x.Lo < -api.MaxBound || x.Start < x.Lo || x.Hi < x.Start || x.Hi > api.MaxBound {
			return false
		}
		names = append(names, x.Name)
	}
	return namesFit(names)
}

func pricesFit(prices []api.Price) bool {
	if len(prices) > api.MaxPrices {
		return false
	}
	var names []string
	for _, x := range prices {
		if !within(x.Start, 0, api.MaxAmount) {
			return false
		}
		names = append(names, x.Name)
	}
	return namesFit(names)
}

// namesFit lays the folds in order, so that those that are alike stand side by side.
func namesFit(names []string) bool {
	var folds []string
	for _, name := range names {
		if text.Check(name) != api.OK {
			return false
		}
		folds = append(folds, text.Fold(name))
	}
	slices.Sort(folds)
	return len(slices.Compact(folds)) == len(names)
}

func ticksFit(c api.Config) bool {
	return within(c.Lease, 1, api.MaxTicks) && within(c.Watch, 1, api.MaxTicks) && within(c.Beat, 1, api.MaxTicks) &&
		c.Beat+beatRoom <= c.Watch
}
