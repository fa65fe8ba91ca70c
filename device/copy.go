package device

import "till/api"

// copyOf begins at nil, so that not even of an empty list anything of the old one is kept.
func copyOf[T any](list []T) []T { return append([]T(nil), list...) }

func copyOfConfig(c api.Config) api.Config {
	c.Counters, c.Prices = copyOf(c.Counters), copyOf(c.Prices)
	return c
}

func copyOfEntries(entries []api.Entry) []api.Entry {
	entries = copyOf(entries)
	for i, e := range entries {
		e.Act = copyOfAct(e.Act)
		e.Made, e.Sets = copyOf(e.Made), copyOf(e.Sets)
		entries[i] = e
	}
	return entries
}

func copyOfAct(a api.Act) api.Act {
	a.Lines, a.Guards, a.Sets = copyOf(a.Lines), copyOf(a.Guards), copyOf(a.Sets)
	a.Merge.Other, a.Rights = copyOf(a.Merge.Other), copyOf(a.Rights)
	return a
}
