package world_test

import (
	"math/rand"
	"slices"

	"till/api"
	"till/book"
	"till/device"
	"till/disk"
	"till/draft"
	"till/link"
	"till/server"
)

// place is a node: its disk, and what runs over it.
type place struct {
	disk *disk.Disk
	life uint64
	till *device.Device
	srv  *server.Server
}

func (p *place) up() bool { return p.till != nil || p.srv != nil }

// model is a world as the chapter's words have it; its net is a list.
type model struct {
	c      api.Config
	flying []api.Flight
	lost   uint64
	places []*place
	fell   int // how often an Off was met
}

func newModel(c api.Config) *model {
	m := &model{c: c}
	for i := range c.Tills + 1 {
		d, _ := disk.New(api.NodeRoom)
		m.places = append(m.places, &place{disk: d})
		m.start(i)
	}
	return m
}

func (m *model) start(i int) (errno api.Errno) {
	p := m.places[i]
	if i == m.c.Tills {
		if p.srv, errno = server.Start(m.c, p.disk); errno == api.OK {
			p.life = p.srv.Life()
		}
		return errno
	}
	if p.till, errno = device.Start(m.c, i, p.disk); errno == api.OK {
		p.life = p.till.Life()
	}
	return errno
}

func (m *model) send(to int, b []byte) {
	if len(m.flying) >= m.c.Flight {
		m.lost++
		return
	}
	m.flying = append(m.flying, api.Flight{To: to, Bytes: b})
}

func (m *model) powerOff(p *place, picks []int) {
	img := p.disk.Crash(picks)
	d, errno := disk.Load(img, api.MaxRoom)
	if errno != api.OK {
		panic(errno)
	}
	*p = place{disk: d, life: p.life}
}

func (m *model) at(node int) *place {
	if node < 0 || node > m.c.Tills {
		return nil
	}
	return m.places[node]
}

func (m *model) step(e api.Event) (told api.Told, errno api.Errno) {
	has := e.Index >= 0 && e.Index < len(m.flying)
	p := m.at(e.Node)
	is := p != nil && p.up()
	could := map[int]bool{
		api.EventDeliver: has,
		api.EventDrop:    has,
		api.EventDouble:  has && len(m.flying) < m.c.Flight,
		api.EventTick:    is,
		api.EventCrash:   is,
		api.EventRestart: p != nil && !is,
		api.EventDo:      is && p.till != nil,
		api.EventInject:  p != nil && !isFrame(e.Bytes),
	}[e.Kind]
	if !could {
		return api.Told{}, api.ErrWorldEvent
	}
	switch e.Kind {
	case api.EventDeliver, api.EventDrop:
		f := m.flying[e.Index]
		m.flying = slices.Delete(m.flying, e.Index, e.Index+1)
		if e.Kind == api.EventDrop || !m.places[f.To].up() {
			return api.Told{}, api.OK
		}
		p = m.places[f.To]
		e.Bytes = f.Bytes
	case api.EventDouble:
		m.flying = append(m.flying, m.flying[e.Index])
		return api.Told{}, api.OK
	case api.EventInject:
		m.send(e.Node, slices.Clone(e.Bytes))
		return api.Told{}, api.OK
	case api.EventCrash:
		m.powerOff(p, e.Picks)
		return api.Told{}, api.OK
	}
	return m.run(p, e)
}

// run lets the node do it; whether the power has gone off is asked of the disk alone.
func (m *model) run(p *place, e api.Event) (told api.Told, errno api.Errno) {
	p.disk.Plan(api.Plan{Off: e.Off})
	var out []api.Flight
	switch {
	case e.Kind == api.EventRestart:
		errno = m.start(e.Node)
	case e.Kind == api.EventDo:
		told, errno = p.till.Issue(e.Act, e.Takes)
	case e.Kind == api.EventTick && p.srv != nil:
		out, errno = p.srv.Tick()
	case e.Kind == api.EventTick:
		out, errno = p.till.Tick()
	case p.srv != nil:
		errno = p.srv.Hear(e.Bytes)
	default:
		errno = p.till.Hear(e.Bytes)
	}
	if _, off := p.disk.Size("x"); off == api.ErrDiskOff {
		m.fell++
		m.powerOff(p, e.Picks)
		return api.Told{}, api.OK
	}
	p.disk.Plan(api.Plan{})
	for _, f := range out {
		m.send(f.To, f.Bytes)
	}
	return told, errno
}

func isFrame(b []byte) bool {
	_, ok := link.DecodeFrame(b)
	return ok
}

func (m *model) log() []api.Entry {
	p := m.places[m.c.Tills]
	if p.srv != nil {
		return p.srv.Log()
	}
	entries, _, ok := server.Kept(m.c, p.disk)
	if !ok {
		panic("the server's disk")
	}
	return entries
}

func (m *model) till(n int) ([]api.Entry, []api.Act) {
	p := m.places[n]
	if p.till != nil {
		return p.till.Taken(), p.till.Pending()
	}
	entries, acts, _, ok := device.Kept(m.c, n, p.disk)
	if !ok {
		panic("a till's disk")
	}
	return entries, acts
}

func fold(c api.Config, log []api.Entry) api.State {
	s := book.First(c)
	for _, e := range log {
		next, errno := book.Fold(c, s, e)
		if errno != api.OK {
			panic(errno)
		}
		s = next
	}
	return s
}

// all is what a world must tell then.
func (m *model) all() string {
	s := text([]any{len(m.flying), m.lost, m.flying, m.log(), fold(m.c, m.log())})
	for n := -1; n <= m.c.Tills+1; n++ {
		if p := m.at(n); p != nil {
			s += text([]any{p.up(), p.life})
		} else {
			s += text([]any{false, 0})
		}
		if n < 0 || n >= m.c.Tills {
			s += text([]any{"\n", []api.Entry{}, []api.Act{}, api.State{}, api.State{}})
			continue
		}
		taken, pending := m.till(n)
		d, errno := draft.Load(m.c, n, taken, pending)
		if errno != api.OK {
			panic(errno)
		}
		s += text([]any{"\n", taken, pending, d.Base(), d.View()})
	}
	return s
}

// chance draws configurations, acts and events.
type chance struct{ *rand.Rand }

func (r chance) config() api.Config {
	c := api.Config{Tills: 1 + r.Intn(4), Lease: 1 + r.Intn(90), Beat: 1 + r.Intn(5), Window: 1 + r.Intn(4), Cap: 1 + r.Intn(6), Flight: 1 << r.Intn(8)}
	c.Watch = c.Beat + 4 + r.Intn(6)
	for i := range 1 + r.Intn(3) {
		x := api.Counter{Name: string(rune('a' + i)), Lo: -r.Int63n(9), Hi: r.Int63n(30)}
		x.Start = x.Lo + r.Int63n(x.Hi-x.Lo+1)
		c.Counters = append(c.Counters, x)
	}
	for i := range r.Intn(3) {
		c.Prices = append(c.Prices, api.Price{Name: string(rune('a' + i)), Start: r.Int63n(api.MaxAmount + 1)})
	}
	return c
}

func (r chance) lines(c api.Config, most int) (out []api.Line) {
	for range 1 + r.Intn(most) {
		x := api.Line{Counter: r.Intn(len(c.Counters)), Change: 1 + r.Int63n(2)}
		if r.Intn(2) == 0 {
			x.Change = -x.Change
		}
		out = append(out, x)
	}
	return out
}

// act draws an act without a head; whether rights are there is not looked at, and now and then it may not be.
func (r chance) act(c api.Config, till int) api.Act {
	right := api.Right{Counter: r.Intn(len(c.Counters)), Way: r.Intn(2), N: 1 + r.Int63n(5)}
	switch k := r.Intn(25); {
	case k < 8:
		return ask(right)
	case k < 10:
		return give(right)
	case k < 13:
		return pass((till+1)%c.Tills, right)
	case k < 19:
		return api.Act{Kind: api.ActWrite, Lines: r.lines(c, 1+r.Intn(2))}
	case k == 19:
		return api.Act{Kind: r.Intn(7), Lines: r.lines(c, 9), Right: right}
	}
	a := api.Act{Kind: api.ActWrite, Lines: r.lines(c, 3), Merge: api.Merge{Kind: r.Intn(4)}}
	a.Guards = []api.Guard{{Kind: api.GuardLeast + r.Intn(2), What: r.Intn(len(c.Counters)), N: r.Int63n(9)}}
	if a.Merge.Kind == api.MergeOther {
		a.Merge.Other = r.lines(c, 2)
	}
	for price := range c.Prices {
		a.Sets = append(a.Sets, api.Set{Price: price, Version: r.Intn(3) - 1, N: r.Int63n(100)})
	}
	return a
}

func (r chance) picks() (out []int) {
	for range r.Intn(5) {
		out = append(out, r.Intn(80)-10)
	}
	return out
}

// event draws one that is likely of some use.
func (r chance) event(w *rig) api.Event {
	e := api.Event{Node: r.Intn(w.c.Tills + 1), Index: r.Intn(min(w.Len(), 6) + 1)}
	switch k := r.Intn(200); {
	case k < 80:
		e.Kind = api.EventDeliver
	case k < 85:
		e.Kind = api.EventDrop
	case k < 93:
		e.Kind = api.EventDouble
	case k < 150:
		e.Kind = api.EventTick
	case k < 151:
		e.Kind = api.EventCrash
	case k < 161:
		e.Kind = api.EventRestart
	case k < 190:
		e.Kind, e.Takes = api.EventDo, r.Intn(4)
		e.Act = r.act(w.c, e.Node)
	case k < 194:
		e.Kind, e.Bytes = api.EventInject, []byte(text(r.picks()))
		if w.Len() > 0 && r.Intn(3) == 0 {
			e.Bytes = append(w.Flights()[0].Bytes, 0)
			e.Bytes[r.Intn(len(e.Bytes))] ^= byte(r.Intn(3))
			e.Bytes = e.Bytes[:len(e.Bytes)-r.Intn(2)]
		}
	default:
		e.Kind, e.Node, e.Index = r.Intn(12)-1, r.Intn(9)-2, r.Intn(500)-2
	}
	if often := e.Kind == api.EventTick || e.Kind == api.EventRestart; r.Intn(12) == 0 || often && r.Intn(2) == 0 {
		e.Off = r.Intn(6) - 1
	}
	if r.Intn(3) > 0 {
		e.Picks = r.picks()
	}
	return e
}
