package shop

import "till/api"

// command is a row of the table of lines.
type command struct {
	run func(*Shop, *reader) ([]string, api.Errno)
}

// commands are all rows, by their first words.
func commands() map[string]command {
	return map[string]command{
		"sale":    {(*Shop).sale},
		"refund":  {(*Shop).refund},
		"count":   {(*Shop).count},
		"price":   {(*Shop).price},
		"want":    {(*Shop).want},
		"give":    {(*Shop).give},
		"pass":    {(*Shop).pass},
		"tick":    {(*Shop).tick},
		"crash":   {(*Shop).crash},
		"restart": {(*Shop).restart},
		"deliver": {(*Shop).deliver},
		"drop":    {(*Shop).drop},
		"double":  {(*Shop).double},
		"close":   {(*Shop).close},
		"advise":  {(*Shop).advise},
		"view":    {(*Shop).view},
		"state":   {(*Shop).state},
		"nodes":   {(*Shop).nodes},
		"flights": {(*Shop).flights},
		"log":     {(*Shop).log},
		"report":  {(*Shop).report},
		"sum":     {(*Shop).sum},
		"check":   {(*Shop).check},
	}
}

func (s *Shop) do(till, takes int, a api.Act) ([]string, api.Errno) {
	return s.Step(api.Event{Kind: api.EventDo, Node: till, Act: a, Takes: takes})
}

func (s *Shop) sale(r *reader) ([]string, api.Errno) { return s.trade(r, -1) }

func (s *Shop) refund(r *reader) ([]string, api.Errno) { return s.trade(r, 1) }

// trade reads items by pairs of words: a single one behind them says what is taken.
func (s *Shop) trade(r *reader, sign int64) ([]string, api.Errno) {
	till := r.till()
	lines := []api.Line{r.line(sign)}
	for len(r.words) > 1 {
		lines = append(lines, r.line(sign))
	}
	takes := r.takes()
	r.end()
	return s.do(till, takes, api.Act{Kind: api.ActWrite, Lines: lines})
}

// count makes a counter's value what was found on the shelf. If others have changed it meanwhile, it moves as far by what was amiss as it can.
func (s *Shop) count(r *reader) ([]string, api.Errno) {
	till, item, found := r.till(), r.item(), r.whole()
	r.end()
	value := s.View(till).Pools[item].Value
	if found == value {
		return []string{"same"}, api.OK
	}
	return s.do(till, api.Loose, api.Act{
		Kind:   api.ActWrite,
		Lines:  []api.Line{{Counter: item, Change: found - value}},
		Guards: []api.Guard{{Kind: api.GuardIs, What: item, N: value}},
		Merge:  api.Merge{Kind: api.MergeClamp},
	})
}

func (s *Shop) price(r *reader) ([]string, api.Errno) {
	till, price, amount, merge := r.till(), r.price(), r.amount(), r.merge()
	r.end()
	return s.do(till, api.Loose, api.Act{
		Kind:   api.ActWrite,
		Guards: []api.Guard{{Kind: api.GuardVersion, What: price, N: s.View(till).Prices[price].Version}},
		Sets:   []api.Set{{Price: price, Version: -1, N: amount}},
		Merge:  merge,
	})
}

func (s *Shop) want(r *reader) ([]string, api.Errno) { return s.claim(r, api.ActAsk) }

func (s *Shop) give(r *reader) ([]string, api.Errno) { return s.claim(r, api.ActGive) }

func (s *Shop) claim(r *reader, kind int) ([]string, api.Errno) {
	till, right := r.till(), r.right()
	r.end()
	return s.do(till, api.Loose, api.Act{Kind: kind, Right: right})
}

func (s *Shop) pass(r *reader) ([]string, api.Errno) {
	till, right := r.till(), r.right()
	r.choice("to")
	to := r.till()
	r.end()
	return s.do(till, api.Loose, api.Act{Kind: api.ActPass, Right: right, To: to})
}

func (s *Shop) tick(r *reader) ([]string, api.Errno) { return s.atNode(r, api.EventTick) }

func (s *Shop) crash(r *reader) ([]string, api.Errno) { return s.atNode(r, api.EventCrash) }

func (s *Shop) restart(r *reader) ([]string, api.Errno) { return s.atNode(r, api.EventRestart) }

func (s *Shop) atNode(r *reader, kind int) ([]string, api.Errno) {
	node := r.node()
	r.end()
	return s.Step(api.Event{Kind: kind, Node: node})
}

func (s *Shop) deliver(r *reader) ([]string, api.Errno) { return s.atPlace(r, api.EventDeliver) }

func (s *Shop) drop(r *reader) ([]string, api.Errno) { return s.atPlace(r, api.EventDrop) }

func (s *Shop) double(r *reader) ([]string, api.Errno) { return s.atPlace(r, api.EventDouble) }

func (s *Shop) atPlace(r *reader, kind int) ([]string, api.Errno) {
	place := r.place()
	r.end()
	return s.Step(api.Event{Kind: kind, Index: place})
}

// close ends a till's day.
func (s *Shop) close(r *reader) ([]string, api.Errno) {
	till := r.till()
	r.end()
	for i := range s.sellers[till] {
		x := &s.sellers[till][i]
		x.Note(x.sold)
		x.sold = 0
	}
	return nil, api.OK
}
