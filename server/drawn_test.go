package server_test

import (
	"bytes"
	"fmt"
	"math/rand"
	"slices"
	"testing"

	"till/act"
	"till/api"
	"till/book"
	"till/disk"
	"till/link"
	"till/server"
)

// model is a server as the chapter's words have it; its journal is a list of transactions.
type model struct {
	c       api.Config
	life    uint64
	entries []api.Entry
	state   api.State
	journal [][][]byte
	links   []*link.Link
	open    map[int]bool
	silent  map[int]int
}

func (m *model) part(e api.Entry) []byte {
	b, _ := act.EncodeEntry(m.c, e)
	return append([]byte{2}, b...)
}

func (m *model) keep(record []byte) {
	if len(m.journal) < api.MaxRecords {
		m.journal = append(m.journal, parts(record))
		return
	}
	all := parts(lifePart(m.life))
	for _, e := range m.entries {
		all = append(all, m.part(e))
	}
	m.journal = [][][]byte{all}
}

func (m *model) start() {
	m.life++
	m.keep(lifePart(m.life))
	m.open, m.silent, m.links = map[int]bool{}, map[int]int{}, nil
	for till := range m.c.Tills {
		m.links = append(m.links, link.New(m.c.Tills, till, m.life, m.c.Window, m.c.Cap))
	}
}

func (m *model) send(till int, e api.Entry) {
	b, _ := act.Make(m.c, act.Body{Kind: act.BodyEntry, Entry: e})
	m.links[till].Send(b)
}

func (m *model) add(e api.Entry) {
	s, errno := book.Fold(m.c, m.state, e)
	if errno != api.OK {
		panic(fmt.Sprintf("%+v: %d", e, errno))
	}
	m.entries, m.state = append(m.entries, e), s
	m.keep(m.part(e))
	for till := range m.c.Tills {
		if m.open[till] {
			m.send(till, e)
		}
	}
}

func (m *model) hear(b []byte) {
	f, ok := link.DecodeFrame(b)
	if !ok || f.To != m.c.Tills || f.From >= m.c.Tills {
		return
	}
	d := f.From
	h := m.links[d].Hear(f)
	if h.Anew {
		m.open[d] = false
	}
	if h.Right {
		m.silent[d] = 0
	}
	if h.Right && f.Seq == 0 {
		m.links[d].Owe()
	}
	if !h.Handed {
		return
	}
	x, errno := act.Read(m.c, h.Body)
	if errno != api.OK {
		return
	}
	if x.Kind == act.BodyHello && !m.open[d] && x.Position <= uint64(len(m.entries)) {
		m.open[d] = true
		for _, e := range m.entries[x.Position:] {
			m.send(d, e)
		}
	}
	if x.Kind == act.BodyAct && x.Act.Till == d && x.Act.Number == m.state.Last[d]+1 && len(m.entries) < api.MaxLog {
		m.add(book.Next(m.c, m.state, x.Act))
	}
}

func (m *model) owed() (n int) {
	for _, owes := range m.state.Owed {
		if owes {
			n++
		}
	}
	return n
}

func (m *model) tick() (out []api.Flight) {
	for till := range m.c.Tills {
		m.silent[till]++
		if len(book.Held(m.state, till)) == 0 {
			m.silent[till] = 0
		}
	}
	for till := range m.c.Tills {
		if m.silent[till] < m.c.Watch || m.state.Owed[till] || len(m.entries)+1+m.owed()+1 > api.MaxLog {
			continue
		}
		m.add(fence(uint64(len(m.entries))+1, till, m.state.Gen[till]+1))
	}
	for till, l := range m.links {
		for _, b := range l.Tick() {
			out = append(out, api.Flight{To: till, Bytes: b})
		}
	}
	return out
}

// chance draws what may come to a server.
type chance struct{ *rand.Rand }

func (r chance) config() api.Config {
	c := api.Config{Tills: 1 + r.Intn(4), Lease: 9, Beat: 1, Watch: 5 + r.Intn(20), Window: 1 + r.Intn(4), Cap: 1 + r.Intn(6), Flight: 9}
	if r.Intn(10) == 0 {
		c.Tills = api.MaxTills
	}
	for i := range 1 + r.Intn(3) {
		x := api.Counter{Name: string(rune('a' + i)), Lo: -r.Int63n(9), Hi: r.Int63n(30)}
		x.Start = x.Lo + r.Int63n(x.Hi-x.Lo+1)
		c.Counters = append(c.Counters, x)
	}
	for i := range r.Intn(3) {
		c.Prices = append(c.Prices, api.Price{Name: string(rune('a' + i)), Start: r.Int63n(api.MaxAmount + 1)})
	}
	return c
}

func (r chance) lines(c api.Config) (out []api.Line) {
	for range 1 + r.Intn(3) {
		x := api.Line{Counter: r.Intn(len(c.Counters)), Change: 1 + r.Int63n(4)}
		if r.Intn(2) == 0 {
			x.Change = -x.Change
		}
		out = append(out, x)
	}
	return out
}

// act draws an act of a till; whether rights are there is not looked at.
func (r chance) act(c api.Config, s api.State, to api.Head) api.Act {
	a := api.Act{Head: to}
	right := api.Right{Counter: r.Intn(len(c.Counters)), Way: r.Intn(2), N: 1 + r.Int63n(5)}
	switch k := r.Intn(12); {
	case k < 5:
		a.Kind, a.Right = api.ActAsk, right
	case k < 6:
		a.Kind, a.Right = api.ActGive, right
	case k < 7 && c.Tills > 1:
		a.Kind, a.Right, a.To = api.ActPass, right, (to.Till+1)%c.Tills
	case k < 9:
		a.Kind, a.Gen, a.Rights = api.ActYield, max(1, s.Gen[to.Till]), book.Held(s, to.Till)
	case k < 10:
		a.Kind, a.Sure, a.Lines = api.ActWrite, true, r.lines(c)
	default:
		a.Kind, a.Lines, a.Merge.Kind = api.ActWrite, r.lines(c), []int{api.MergeNone, api.MergeClamp, api.MergeForce}[r.Intn(3)]
		for price := range c.Prices {
			a.Sets = append(a.Sets, api.Set{Price: price, Version: -1, N: r.Int63n(100)})
		}
	}
	return a
}

// plainTill talks to the server over a link of its own, not always sense.
type plainTill struct {
	*link.Link
	life uint64
	next uint64   // the number of the act that it says next; a lesser one than the server waits for counts for nothing
	out  [][]byte // frames that went out, old ones, too
	at   int      // how many of these have come, or were lost
}

// world is a server with the model of it, and tills around.
type world struct {
	t *testing.T
	chance
	c     api.Config
	d     *disk.Disk
	s     *server.Server
	m     *model
	tills []*plainTill
	back  []api.Flight // what the server has said, not long ago
	count map[string]int
}

func (r chance) world(t *testing.T) *world {
	w := &world{t: t, chance: r, c: r.config(), count: map[string]int{}}
	w.d, _ = disk.New(api.MaxRoom)
	w.m = &model{c: w.c, state: book.First(w.c)}
	if r.Intn(3) == 0 { // near to a checkpoint
		for len(w.m.journal) < api.MaxRecords-r.Intn(20) {
			w.m.start()
		}
		w.d = written(t, w.m.journal...)
	}
	for till := range w.c.Tills {
		w.tills = append(w.tills, &plainTill{Link: link.New(till, w.c.Tills, 1, w.c.Window, w.c.Cap), life: 1})
	}
	w.start()
	return w
}

func (w *world) start() {
	w.t.Helper()
	if l, life, ok := server.Kept(w.c, w.d); !ok || life != w.m.life || text(l) != text(w.m.entries) {
		w.t.Fatalf("Kept: %d entries, life %d, %v; want %d, %d", len(l), life, ok, len(w.m.entries), w.m.life)
	}
	w.s = started(w.t, w.c, w.d)
	w.m.start()
	w.same()
}

// same holds all that a server tells and keeps against the model.
func (w *world) same() {
	w.t.Helper()
	if w.s.Life() != w.m.life || text(w.s.State()) != text(w.m.state) || len(w.s.Log()) != len(w.m.entries) {
		w.t.Fatalf("life %d, %d entries, %+v\nwant %d, %d, %+v", w.s.Life(), len(w.s.Log()), w.s.State(), w.m.life, len(w.m.entries), w.m.state)
	}
	if w.Intn(20) == 0 {
		if text(w.s.Log()) != text(w.m.entries) || !book.Right(w.c, w.s.State()) {
			w.t.Fatalf("%+v\nwant %+v", w.s.Log(), w.m.entries)
		}
		if g := transactions(w.t, left(w.t, w.d)); text(g) != text(w.m.journal) {
			w.t.Fatalf("the journal has %v\nwant %v", g, w.m.journal)
		}
	}
}

// body draws something for a till to say: most of it makes sense.
func (w *world) body(till int) []byte {
	number := max(w.tills[till].next, w.m.state.Last[till]+1)
	x := act.Body{Kind: act.BodyAct, Act: w.act(w.c, w.m.state, api.Head{Till: till, Number: number})}
	switch w.Intn(20) {
	case 0:
		x.Act.Number += uint64(w.Intn(3))
	case 1:
		x.Act.Number = max(1, x.Act.Number-1)
	case 2:
		x.Act.Till = w.Intn(w.c.Tills)
	case 3:
		x = act.Body{Kind: act.BodyHello, Position: uint64(w.Intn(len(w.m.entries) + 3))}
	case 4:
		x = act.Body{Kind: act.BodyEntry, Entry: fence(uint64(len(w.m.entries))+1, till, 1)}
	case 5:
		b := make([]byte, w.Intn(20))
		w.Read(b)
		return b
	default:
		w.tills[till].next = number + 1
	}
	b, _ := act.Make(w.c, x) // of one that may not be: no bytes
	return b
}

// frame draws one of a till's that went out, lately or at any time; now and then spoilt, or made by hand.
func (w *world) frame() []byte {
	till := w.Intn(w.c.Tills)
	p := w.tills[till]
	if w.Intn(10) == 0 || len(p.out) == 0 {
		f := api.Frame{From: w.Intn(w.c.Tills + 1), To: w.c.Tills, Mine: p.life, Yours: w.m.life - uint64(w.Intn(2)), Seq: uint64(w.Intn(4)), Ack: uint64(w.Intn(4))}
		if f.From = till; w.Intn(5) == 0 {
			f.From, f.To = w.Intn(9), w.Intn(9)
		}
		if f.Seq > 0 {
			f.Body = w.body(till)
		}
		return link.EncodeFrame(f)
	}
	at := min(p.at, len(p.out)-1)
	if p.at = at + 1; w.Intn(8) == 0 {
		at = w.Intn(len(p.out))
	}
	b := bytes.Clone(p.out[at])
	if w.Intn(20) == 0 {
		b[w.Intn(len(b))] ^= 1 << w.Intn(8)
	}
	return b
}

func (w *world) tillTicks(till int) {
	p := w.tills[till]
	if p.Known() && p.Len() < 6 {
		p.Send(w.body(till))
	}
	if w.Intn(4) == 0 {
		p.Owe()
	}
	p.out = append(p.out, p.Tick()...)
}

func (w *world) tillRestarts(till int) {
	p := w.tills[till]
	p.life++
	p.next = 0
	p.Link = link.New(till, w.c.Tills, p.life, w.c.Window, w.c.Cap)
}

func (w *world) tillHears() {
	if len(w.back) == 0 {
		return
	}
	m := w.back[0]
	if w.back = w.back[1:]; len(w.back) > 0 && w.Intn(8) == 0 {
		m = w.back[w.Intn(len(w.back))]
	}
	if f, ok := link.DecodeFrame(m.Bytes); ok {
		h := w.tills[m.To].Hear(f)
		if h.Anew {
			b, _ := act.Make(w.c, act.Body{Kind: act.BodyHello, Position: uint64(w.Intn(len(w.m.entries) + 1))})
			w.tills[m.To].Send(b)
			w.tills[m.To].next = 0
		}
		if h.Handed {
			w.count["handed"]++
		}
	}
}

func sameFlights(x, y []api.Flight) bool {
	return slices.EqualFunc(x, y, func(x, y api.Flight) bool { return x.To == y.To && bytes.Equal(x.Bytes, y.Bytes) })
}

// event lets the server hear or tick; behind it, it is as the model is, or down.
func (w *world) event() {
	w.t.Helper()
	before, life := slices.Clip(w.m.entries), w.m.life
	var errno api.Errno
	var out, want []api.Flight
	if w.Intn(4) == 0 {
		out, errno = w.s.Tick()
		want = w.m.tick()
		w.back = append(w.back, out...)
		w.back = w.back[max(0, len(w.back)-40):]
	} else {
		b := w.frame()
		errno = w.s.Hear(b)
		w.m.hear(b)
	}
	planned := w.m.entries[len(before):]
	w.count["entries"] += len(planned)
	if errno == api.ErrServerDown {
		if len(out) != 0 {
			w.t.Fatalf("down, and yet %v is told", out)
		}
		w.crashed(before, planned, life)
		return
	}
	if errno != api.OK || !sameFlights(out, want) {
		w.t.Fatalf("%d; Tick: %v, want %v", errno, out, want)
	}
	w.same()
}

// crashed: the server is down in the midst of keeping one of the entries that were planned.
func (w *world) crashed(before, planned []api.Entry, life uint64) {
	w.t.Helper()
	w.count["crashes"]++
	log := w.s.Log()
	n := len(log) - len(before)
	if n < 0 || n >= len(planned) || text(log) != text(append(before, planned[:n]...)) || text(w.s.State()) != text(folded(w.t, w.c, log)) {
		w.t.Fatalf("down with %+v\nbehind %+v: planned %+v", log, before, planned)
	}
	if _, errno := w.s.Tick(); errno != api.ErrServerDown || w.s.Life() != life {
		w.t.Fatalf("down: Tick: %d, life %d", errno, w.s.Life())
	}
	w.d = left(w.t, w.d, w.picks()...)
	kept, last, ok := server.Kept(w.c, w.d)
	if more := len(kept) - len(log); !ok || last != life || more < 0 || more > 1 || text(kept) != text(append(before, planned...)[:len(kept)]) {
		w.t.Fatalf("Kept: %+v, %d, %v\nbehind %+v: planned %+v", kept, last, ok, log, planned)
	} else if more == 1 {
		w.count["under way"]++
	}
	w.m = &model{c: w.c, life: life, entries: kept, state: folded(w.t, w.c, kept), journal: transactions(w.t, w.d)}
	w.startThroughCrashes()
}

// picks leave nothing, all or some of what is not safe.
func (w *world) picks() []int {
	var out []int
	for range 3 {
		out = append(out, []int{0, -1, w.Intn(4000)}[w.Intn(3)])
	}
	return out
}

// startThroughCrashes starts the server, and lets the power go off in some of the starts.
func (w *world) startThroughCrashes() {
	w.t.Helper()
	for w.Intn(2) == 0 {
		w.d.Plan(api.Plan{Off: 1 + w.Intn(5)})
		s, errno := server.Start(w.c, w.d)
		if errno == api.OK {
			w.d.Plan(api.Plan{})
			w.s = s
			w.m.start()
			w.same()
			return
		}
		if errno != api.ErrDiskOff || s != nil {
			w.t.Fatalf("Start: %v, %d", s, errno)
		}
		w.d = left(w.t, w.d, w.picks()...)
		kept, last, ok := server.Kept(w.c, w.d)
		if !ok || text(kept) != text(w.m.entries) || last != w.m.life && last != w.m.life+1 {
			w.t.Fatalf("behind a start that was cut off: Kept: %+v, %d, %v", kept, last, ok)
		}
		w.m.life, w.m.journal = last, transactions(w.t, w.d)
		w.count["starts cut off"]++
	}
	w.start()
}

func (w *world) step() {
	w.t.Helper()
	switch k := w.Intn(40); {
	case k < 10:
		w.tillTicks(w.Intn(w.c.Tills))
	case k < 16:
		for range 1 + w.Intn(4) {
			w.tillHears()
		}
	case k == 16 && w.Intn(4) == 0:
		w.tillRestarts(w.Intn(w.c.Tills))
	case k == 17 && w.Intn(8) == 0:
		w.d = left(w.t, w.d)
		w.startThroughCrashes()
	case k == 18 && w.Intn(6) == 0:
		w.d.Plan(api.Plan{Off: w.Intn(9)})
	default:
		w.event()
	}
}

// Of P15.1 to P15.5 and P15.7: whatever comes, and wherever the power goes off.
func TestP15_7Drawn(t *testing.T) {
	count := map[string]int{}
	for seed := range int64(100) {
		r := chance{rand.New(rand.NewSource(seed))}
		w := r.world(t)
		for range 1500 {
			w.step()
			if t.Failed() {
				t.Fatalf("seed %d", seed)
			}
		}
		w.same()
		for what, n := range w.count {
			count[what] += n
		}
		for _, e := range w.m.entries {
			count[fmt.Sprint("kind ", e.Act.Kind, " outcome ", e.Outcome)]++
		}
		inOrder(t, w.c, w.s.Log())
	}
	for _, x := range []struct {
		what  string
		least int
	}{
		{"entries", 3000}, {"handed", 1000}, {"crashes", 100}, {"under way", 20}, {"starts cut off", 50},
		{"kind 0 outcome 0", 100}, {"kind 5 outcome 5", 20}, {"kind 4 outcome 5", 5}, {"kind 1 outcome 1", 100},
	} {
		if count[x.what] < x.least {
			t.Errorf("%s: %d only", x.what, count[x.what])
		}
	}
}

// inOrder: of each till the acts stand in the log in the order of their numbers, each once.
func inOrder(t *testing.T, c api.Config, entries []api.Entry) {
	t.Helper()
	last := make([]uint64, c.Tills)
	for i, e := range entries {
		if e.Position != uint64(i)+1 {
			t.Fatalf("%+v at %d", e, i+1)
		}
		if e.Act.Kind == api.ActNone {
			continue
		}
		if last[e.Act.Till]++; e.Act.Number != last[e.Act.Till] {
			t.Fatalf("%+v behind act %d", e, last[e.Act.Till]-1)
		}
	}
}
