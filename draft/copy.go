package draft

import "till/api"

// copyOf begins at nil, so that not even of an empty list anything of the old one is kept.
func copyOf[T any](list []T) []T { return append([]T(nil), list...) }

func copyOfConfig(c api.Config) api.Config {
	c.Counters, c.Prices = copyOf(c.Counters), copyOf(c.Prices)
	return c
}

func copyOfAct(a api.Act) api.Act {
	a.Lines, a.Guards, a.Sets = copyOf(a.Lines), copyOf(a.Guards), copyOf(a.Sets)
	a.Merge.Other, a.Rights = copyOf(a.Merge.Other), copyOf(a.Rights)
	return a
}

func copyOfActs(acts []api.Act) []api.Act {
	acts = copyOf(acts)
	for i, a := range acts {
		acts[i] = copyOfAct(a)
	}
	return acts
}

func copyOfState(s api.State) api.State {
	s.Pools, s.Prices = copyOf(s.Pools), copyOf(s.Prices)
	for i, pool := range s.Pools {
		s.Pools[i].Held = copyOf(pool.Held)
	}
	s.Last, s.Gen, s.Owed = copyOf(s.Last), copyOf(s.Gen), copyOf(s.Owed)
	return s
}
