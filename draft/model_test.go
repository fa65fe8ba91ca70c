package draft_test

import (
	"slices"

	"till/act"
	"till/api"
	"till/book"
)

// model answers by the chapter's words, rule for rule: it keeps what was taken and what is pending, and works all else out anew.
type model struct {
	c       api.Config
	till    int
	entries []api.Entry
	base    api.State
	pending []api.Act
}

func newModel(c api.Config, till int) *model {
	return &model{c: c, till: till, base: book.First(c)}
}

func (m *model) next() uint64 { return m.base.Last[m.till] + uint64(len(m.pending)) + 1 }

func (m *model) view() api.State {
	s := m.base
	for _, a := range m.pending {
		s, _ = book.Fold(m.c, s, book.Next(m.c, s, a))
	}
	return s
}

// needs is what an act needs, by counter and way.
func needs(a api.Act) map[[2]int]int64 {
	out := map[[2]int]int64{}
	switch {
	case a.Kind == api.ActWrite && a.Sure:
		for _, x := range a.Lines {
			out[[2]int{x.Counter, wayOf(x.Change)}] += max(x.Change, -x.Change)
		}
	case a.Kind == api.ActGive || a.Kind == api.ActPass:
		out[[2]int{a.Right.Counter, a.Right.Way}] = a.Right.N
	case a.Kind == api.ActYield:
		for _, x := range a.Rights {
			out[[2]int{x.Counter, x.Way}] += x.N
		}
	}
	return out
}

func wayOf(change int64) int {
	if change < 0 {
		return api.Down
	}
	return api.Up
}

// left is what is left of a counter and a way: below 0, if the pending acts need more than is held.
func (m *model) left(counter, way int) int64 {
	n := m.base.Pools[counter].Held[m.till][way]
	for _, a := range m.pending {
		n -= needs(a)[[2]int{counter, way}]
	}
	return n
}

func (m *model) available() []api.Right {
	var out []api.Right
	for counter := range m.c.Counters {
		for way := range 2 {
			if n := m.left(counter, way); n > 0 {
				out = append(out, api.Right{Counter: counter, Way: way, N: n})
			}
		}
	}
	return out
}

func (m *model) covers(a api.Act) bool {
	for k, n := range needs(a) {
		if m.left(k[0], k[1]) < n {
			return false
		}
	}
	return true
}

func (m *model) issue(a api.Act, takes int, runs bool) (uint64, bool, api.Errno) {
	if !slices.Contains([]int{api.ActWrite, api.ActAsk, api.ActGive, api.ActPass}, a.Kind) {
		return 0, false, api.ErrActKind
	}
	a.Head, a.Sure = api.Head{Till: m.till, Number: 1}, false
	if errno := act.Check(m.c, a); errno != api.OK {
		return 0, false, errno
	}
	if len(m.pending) >= 64 || m.next() > 1<<40 {
		return 0, false, api.ErrDraftFull
	}
	can := a.Kind == api.ActWrite && len(a.Guards)+len(a.Sets) == 0 && a.Merge.Kind == api.MergeNone && runs && m.covers(sure(a))
	if a.Kind == api.ActWrite && takes == api.Sure && !can || !m.covers(a) {
		return 0, false, api.ErrDraftRights
	}
	a.Number, a.Sure = m.next(), can && (takes == api.Sure || takes == api.Best)
	m.pending = append(m.pending, a)
	return a.Number, a.Sure, api.OK
}

func (m *model) put(a api.Act) api.Errno {
	switch {
	case a.Kind == api.ActYield || a.Till != m.till || a.Number != m.next() || act.Check(m.c, a) != api.OK:
		return api.ErrDraftOrder
	case len(m.pending) >= 64:
		return api.ErrDraftFull
	case !m.covers(a):
		return api.ErrDraftRights
	}
	m.pending = append(m.pending, a)
	return api.OK
}

func (m *model) yields() bool {
	return slices.ContainsFunc(m.pending, func(a api.Act) bool { return a.Kind == api.ActYield })
}

func (m *model) putYield(a api.Act) api.Errno {
	switch {
	case a.Till != m.till || a.Number != m.next() || act.Check(m.c, a) != api.OK || !m.base.Owed[m.till] || a.Gen != m.base.Gen[m.till] || m.yields():
		return api.ErrDraftOrder
	case !m.covers(a):
		return api.ErrDraftRights
	}
	m.pending = append(m.pending, a)
	return api.OK
}

func loadModel(c api.Config, till int, entries []api.Entry, pending []api.Act) (*model, api.Errno) {
	m := newModel(c, till)
	for _, e := range entries {
		s, errno := book.Fold(c, m.base, e)
		if errno != api.OK {
			return nil, errno
		}
		m.base, m.entries = s, append(m.entries, e)
	}
	for _, a := range pending {
		put := m.put
		if a.Kind == api.ActYield {
			put = m.putYield
		}
		if errno := put(a); errno != api.OK {
			return nil, errno
		}
	}
	if m.base.Owed[till] && !m.yields() && m.next() <= 1<<40 {
		return nil, api.ErrDraftOrder
	}
	return m, api.OK
}

func (m *model) take(e api.Entry) (api.Act, bool, api.Errno) {
	if e.Position != m.base.Position+1 {
		return api.Act{}, false, api.ErrDraftOrder
	}
	s, errno := book.Fold(m.c, m.base, e)
	if errno != api.OK {
		return api.Act{}, false, errno
	}
	own := e.Act.Kind != api.ActNone && e.Act.Till == m.till
	if own && (len(m.pending) == 0 || text(m.pending[0]) != text(e.Act)) {
		return api.Act{}, false, api.ErrBookAct
	}
	m.base, m.entries = s, append(m.entries, e)
	if own {
		m.pending = slices.Clone(m.pending[1:])
	}
	if e.Act.Kind != api.ActNone || e.Fence != m.till || m.next() > 1<<40 {
		return api.Act{}, false, api.OK
	}
	a := as(m.till, m.next(), yield(e.Gen, m.available()...))
	m.pending = append(m.pending, a)
	return a, true, api.OK
}
