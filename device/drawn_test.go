package device_test

import (
	"bytes"
	"fmt"
	"math/rand"
	"reflect"
	"slices"
	"testing"

	"till/act"
	"till/api"
	"till/book"
	"till/device"
	"till/disk"
	"till/draft"
	"till/link"
	"till/share"
)

// model is a device as the chapter's words have it; its journal is a list of transactions, and refuses nothing.
type model struct {
	c       api.Config
	till    int
	life    uint64
	draft   *draft.Draft
	entries []api.Entry
	journal [][][]byte
	link    *link.Link
	lease   *share.Lease
	ticks   int // all of this life's
	last    int // the last one at which a frame went out
}

func (m *model) act(a api.Act) []byte {
	b, _ := act.Encode(m.c, a)
	return append([]byte{2}, b...)
}

func (m *model) entry(e api.Entry) []byte {
	b, _ := act.EncodeEntry(m.c, e)
	return append([]byte{3}, b...)
}

func (m *model) keep(transaction ...[]byte) {
	if len(m.journal) < api.MaxRecords {
		m.journal = append(slices.Clip(m.journal), transaction)
		return
	}
	all := parts(lifePart(m.life))
	for _, e := range m.entries {
		all = append(all, m.entry(e))
	}
	for _, a := range m.draft.Pending() {
		all = append(all, m.act(a))
	}
	m.journal = [][][]byte{all}
}

func (m *model) start() {
	m.life++
	m.keep(lifePart(m.life))
	m.link = link.New(m.till, m.c.Tills, m.life, m.c.Window, m.c.Cap)
	m.lease = share.NewLease(m.c.Lease)
	m.ticks, m.last = 0, 0
}

func (m *model) send(x act.Body) {
	b, errno := act.Make(m.c, x)
	if errno != api.OK {
		panic(fmt.Sprintf("%+v: %d", x, errno))
	}
	m.link.Send(b)
}

func (m *model) issue(a api.Act, takes int) (api.Told, api.Errno) {
	number, sure, errno := m.draft.Issue(a, takes, m.lease.Runs())
	if errno != api.OK {
		return api.Told{}, errno
	}
	pending := m.draft.Pending()
	a = pending[len(pending)-1]
	m.keep(m.act(a))
	m.send(act.Body{Kind: act.BodyAct, Act: a})
	return api.Told{Number: number, Sure: sure}, api.OK
}

func (m *model) hear(b []byte) {
	f, ok := link.DecodeFrame(b)
	if !ok || f.From != m.c.Tills || f.To != m.till {
		return
	}
	h := m.link.Hear(f)
	if h.Anew {
		m.send(act.Body{Kind: act.BodyHello, Position: m.draft.Base().Position})
		for _, a := range m.draft.Pending() {
			m.send(act.Body{Kind: act.BodyAct, Act: a})
		}
	}
	if h.Right {
		m.lease.Hear()
	}
	x, errno := act.Read(m.c, h.Body)
	if !h.Handed || errno != api.OK || x.Kind != act.BodyEntry {
		return
	}
	a, brings, errno := m.draft.Take(x.Entry)
	if errno != api.OK {
		return
	}
	m.entries = append(slices.Clip(m.entries), x.Entry)
	if !brings {
		m.keep(m.entry(x.Entry))
		return
	}
	m.keep(m.entry(x.Entry), m.act(a))
	m.send(act.Body{Kind: act.BodyAct, Act: a})
}

func (m *model) tick() (out []api.Flight) {
	m.lease.Tick()
	m.ticks++
	if len(book.Held(m.draft.Base(), m.till)) > 0 && m.link.Known() && m.ticks-m.last >= m.c.Beat {
		m.link.Owe()
	}
	for _, b := range m.link.Tick() {
		out = append(out, api.Flight{To: m.c.Tills, Bytes: b})
		m.last = m.ticks
	}
	return out
}

// copied is the model as it is now, links aside.
func (m *model) copied() *model {
	return &model{c: m.c, till: m.till, life: m.life, draft: m.draft.Copy(), entries: slices.Clip(m.entries), journal: slices.Clip(m.journal)}
}

// chance draws what may come to a device.
type chance struct{ *rand.Rand }

func (r chance) config() api.Config {
	c := api.Config{Tills: 1 + r.Intn(4), Lease: 1 + r.Intn(30), Beat: 1 + r.Intn(8), Watch: 20, Window: 1 + r.Intn(4), Cap: 1 + r.Intn(6), Flight: 9}
	for i := range 1 + r.Intn(3) {
		x := api.Counter{Name: string(rune('a' + i)), Lo: -r.Int63n(9), Hi: r.Int63n(30)}
		x.Start = x.Lo + r.Int63n(x.Hi-x.Lo+1)
		c.Counters = append(c.Counters, x)
	}
	for i := range r.Intn(3) {
		c.Prices = append(c.Prices, api.Price{Name: string(rune('a' + i)), Start: r.Int63n(api.MaxAmount + 1)})
	}
	return c
}

func (r chance) lines(c api.Config, most int) (out []api.Line) {
	for range 1 + r.Intn(most) {
		x := api.Line{Counter: r.Intn(len(c.Counters)), Change: 1 + r.Int63n(3)}
		if r.Intn(2) == 0 {
			x.Change = -x.Change
		}
		out = append(out, x)
	}
	return out
}

// act draws an act without a head; whether rights are there is not looked at.
func (r chance) act(c api.Config, till int) api.Act {
	right := api.Right{Counter: r.Intn(len(c.Counters)), Way: r.Intn(2), N: 1 + r.Int63n(5)}
	switch k := r.Intn(12); {
	case k < 4:
		return ask(right)
	case k < 5:
		return give(right)
	case k < 7 && c.Tills > 1:
		return pass((till+1+r.Intn(c.Tills-1))%c.Tills, right)
	case k < 10:
		return api.Act{Kind: api.ActWrite, Lines: r.lines(c, 2)}
	}
	a := api.Act{Kind: api.ActWrite, Lines: r.lines(c, 3), Merge: api.Merge{Kind: r.Intn(4)}}
	if a.Merge.Kind == api.MergeOther {
		a.Merge.Other = r.lines(c, 2)
	}
	for price := range c.Prices {
		a.Sets = append(a.Sets, api.Set{Price: price, Version: -1, N: r.Int63n(100)})
	}
	return a
}

// plainServer talks to the device over a link of its own; it commits what comes, and what it is told of others.
type plainServer struct {
	*link.Link
	life    uint64
	open    bool
	entries []api.Entry
	state   api.State
	out     [][]byte // frames that went out, old ones, too
	at      int      // how many of these have come, or were lost
}

// walk is a device with the model of it, and a server behind a bad net.
type walk struct {
	t *testing.T
	chance
	c     api.Config
	till  int
	d     *disk.Disk
	v     *device.Device
	m     *model
	s     *plainServer
	back  [][]byte // what the device has said, not long ago
	count map[string]int
}

func (r chance) walk(t *testing.T) *walk {
	w := &walk{t: t, chance: r, c: r.config(), count: map[string]int{}}
	w.till = r.Intn(w.c.Tills)
	w.d, _ = disk.New(api.MaxRoom)
	w.m = &model{c: w.c, till: w.till, draft: draft.New(w.c, w.till)}
	if r.Intn(3) == 0 { // near to a checkpoint
		for len(w.m.journal) < api.MaxRecords-r.Intn(20) {
			w.m.start()
		}
		w.d = written(t, w.m.journal...)
	}
	w.s = &plainServer{state: book.First(w.c)}
	w.serverStarts()
	w.start()
	return w
}

func (w *walk) serverStarts() {
	w.s.life++
	w.s.open = false
	w.s.Link = link.New(w.c.Tills, w.till, w.s.life, w.c.Window, w.c.Cap)
}

// commit puts an entry into the server's row. What was promised by the device holds there.
func (w *walk) commit(e api.Entry) {
	w.t.Helper()
	s, errno := book.Fold(w.c, w.s.state, e)
	if errno != api.OK {
		w.t.Fatalf("%+v: %d", e, errno)
	}
	w.s.entries, w.s.state = append(w.s.entries, e), s
	if e.Act.Kind == api.ActWrite && e.Act.Sure && (e.Outcome != api.Applied || text(e.Made) != text(e.Act.Lines)) {
		w.t.Fatalf("a sure write: %+v", e)
	}
	if e.Act.Till == w.till && (e.Act.Kind == api.ActGive || e.Act.Kind == api.ActYield) && e.Outcome != api.Done {
		w.t.Fatalf("%+v", e)
	}
	if w.s.open {
		w.tell(e)
	}
}

func (w *walk) tell(e api.Entry) {
	b, _ := act.Make(w.c, act.Body{Kind: act.BodyEntry, Entry: e})
	w.s.Send(b)
}

func (w *walk) serverHears() {
	w.t.Helper()
	if len(w.back) == 0 {
		return
	}
	b := w.back[0]
	if w.back = w.back[1:]; len(w.back) > 0 && w.Intn(8) == 0 {
		b = w.back[w.Intn(len(w.back))]
	}
	f, _ := link.DecodeFrame(b)
	h := w.s.Hear(f)
	if h.Anew {
		w.s.open = false
	}
	if h.Right && f.Seq == 0 {
		w.s.Owe()
	}
	x, errno := act.Read(w.c, h.Body)
	if !h.Handed || errno != api.OK {
		return
	}
	if x.Kind == act.BodyHello && !w.s.open {
		if x.Position > uint64(len(w.s.entries)) {
			w.t.Fatalf("a hello of %d, there are %d", x.Position, len(w.s.entries))
		}
		w.s.open = true
		for _, e := range w.s.entries[x.Position:] {
			w.tell(e)
		}
	}
	if x.Kind == act.BodyAct && x.Act.Number > w.s.state.Last[w.till]+1 {
		w.t.Fatalf("act %d behind %d", x.Act.Number, w.s.state.Last[w.till])
	}
	if x.Kind == act.BodyAct && x.Act.Number == w.s.state.Last[w.till]+1 {
		w.commit(book.Next(w.c, w.s.state, x.Act))
	}
}

// serverActs lets another till's act or a fence come, now and then.
func (w *walk) serverActs() {
	w.t.Helper()
	if len(w.s.entries) > api.MaxLog/2 {
		return
	}
	if w.Intn(14) == 0 {
		if e, ok := book.Fence(w.c, w.s.state, w.till); ok {
			w.commit(e)
		}
		return
	}
	if w.c.Tills == 1 {
		return
	}
	till := (w.till + 1 + w.Intn(w.c.Tills-1)) % w.c.Tills
	a := w.act(w.c, till)
	w.commit(book.Next(w.c, w.s.state, as(till, w.s.state.Last[till]+1, a)))
}

// frame draws one of the server's that went out, lately or at any time; now and then spoilt, or made by hand.
func (w *walk) frame() []byte {
	if w.Intn(20) == 0 || len(w.s.out) == 0 {
		f := api.Frame{From: w.c.Tills, To: w.till, Mine: w.s.life, Yours: w.m.life - uint64(w.Intn(2)), Ack: uint64(w.Intn(4))}
		if w.Intn(5) == 0 {
			f.From, f.To = w.Intn(9), w.Intn(9)
		}
		return link.EncodeFrame(f)
	}
	at := min(max(w.s.at, len(w.s.out)-8), len(w.s.out)-1) // the others are lost
	if w.s.at = at + 1; w.Intn(8) == 0 {
		at = w.Intn(len(w.s.out))
	}
	b := bytes.Clone(w.s.out[at])
	if w.Intn(20) == 0 {
		b[w.Intn(len(b))] ^= 1 << w.Intn(8)
	}
	return b
}

func (w *walk) start() {
	w.t.Helper()
	w.keeps(w.m)
	w.v = started(w.t, w.c, w.till, w.d)
	w.m.start()
	w.same()
}

// keeps: what the disk keeps is what the model has.
func (w *walk) keeps(m *model) {
	w.t.Helper()
	taken, pending, life, ok := device.Kept(w.c, w.till, w.d)
	if !ok || life != m.life || text(taken) != text(m.entries) || text(pending) != text(m.draft.Pending()) {
		w.t.Fatalf("Kept: %d entries, %+v, life %d, %v; want %d, %+v, %d", len(taken), pending, life, ok, len(m.entries), m.draft.Pending(), m.life)
	}
}

// same holds all that a device tells and keeps against the model, and that nothing is promised twice.
func (w *walk) same() {
	w.t.Helper()
	if w.v.Life() != w.m.life || w.v.Runs() != w.m.lease.Runs() || !reflect.DeepEqual(w.v.Base(), w.m.draft.Base()) || !reflect.DeepEqual(w.v.Pending(), w.m.draft.Pending()) || len(w.v.Taken()) != len(w.m.entries) {
		w.t.Fatalf("life %d, %v, %d entries, %+v\nwant %d, %v, %d, %+v", w.v.Life(), w.v.Runs(), len(w.v.Taken()), w.v.Pending(), w.m.life, w.m.lease.Runs(), len(w.m.entries), w.m.draft.Pending())
	}
	w.notBelow()
	if w.Intn(20) == 0 {
		if text(w.v.Taken()) != text(w.m.entries) || text(w.v.View()) != text(w.m.draft.View()) || text(w.v.Taken()) != text(w.s.entries[:len(w.m.entries)]) {
			w.t.Fatalf("%+v\nwant %+v", w.v.Taken(), w.m.entries)
		}
		if g := transactions(w.t, left(w.t, w.d)); text(g) != text(w.m.journal) {
			w.t.Fatalf("the journal has %v\nwant %v", g, w.m.journal)
		}
	}
}

// notBelow: what is held is at least what the pending acts need, together.
func (w *walk) notBelow() {
	w.t.Helper()
	var left [3][2]int64
	need := func(x api.Right) { left[x.Counter][x.Way] -= x.N }
	for i, p := range w.v.Base().Pools {
		left[i] = p.Held[w.till]
	}
	for _, a := range w.v.Pending() {
		for _, x := range a.Lines {
			if a.Sure && x.Change < 0 {
				need(api.Right{Counter: x.Counter, Way: api.Down, N: -x.Change})
			} else if a.Sure {
				need(api.Right{Counter: x.Counter, Way: api.Up, N: x.Change})
			}
		}
		if a.Kind == api.ActGive || a.Kind == api.ActPass {
			need(a.Right)
		}
		for _, x := range a.Rights {
			need(x)
		}
	}
	for _, x := range left {
		if x[0] < 0 || x[1] < 0 {
			w.t.Fatalf("available: %v", left)
		}
	}
}

// event lets the device issue, hear or tick; behind it, it is as the model is, or down.
func (w *walk) event() {
	w.t.Helper()
	before := w.m.copied()
	var errno, wantErrno api.Errno
	var got, want string
	switch w.Intn(7) {
	case 0, 1, 2:
		b := w.frame()
		errno = w.v.Hear(b)
		w.m.hear(b)
	case 3, 4:
		var out []api.Flight
		out, errno = w.v.Tick()
		got, want = text(out), text(w.m.tick())
		for _, m := range out {
			w.back = append(w.back, m.Bytes)
		}
		w.back = w.back[max(0, len(w.back)-30):]
	default:
		a, takes := w.drawnIssue()
		may := w.v.Runs() && share.May(w.v.Base(), w.v.Pending(), w.till, a.Lines)
		var told, wantTold api.Told
		told, errno = w.v.Issue(a, takes)
		wantTold, wantErrno = w.m.issue(a, takes)
		if got, want = text(told), text(wantTold); told.Sure && !may {
			w.t.Fatalf("%+v is answered as sure", a)
		}
		w.count[fmt.Sprint("issue ", wantErrno, " ", wantTold.Sure)]++
	}
	if errno == api.ErrDeviceDown {
		if got != "[]" && got != "" && got != text(api.Told{}) {
			w.t.Fatalf("down, and yet %s is told", got)
		}
		w.crashed(before)
		return
	}
	if errno != wantErrno || got != want {
		w.t.Fatalf("%d, %s\nwant %d, %s", errno, got, wantErrno, want)
	}
	w.count["taken"] += len(w.m.entries) - len(before.entries)
	w.same()
}

func (w *walk) drawnIssue() (api.Act, int) {
	a := w.act(w.c, w.till)
	switch w.Intn(30) {
	case 0:
		a.Kind = w.Intn(8)
	case 1:
		a.Lines = append(a.Lines, api.Line{Counter: w.Intn(4)})
	case 2:
		a.Till, a.Number, a.Sure = w.Intn(9), uint64(w.Intn(9)), true
	}
	return a, w.Intn(4)
}

// crashed: the device is down in the midst of keeping what the model has made of it.
func (w *walk) crashed(before *model) {
	w.t.Helper()
	w.count["crashes"]++
	if w.v.Runs() || w.v.Life() != before.life || text(w.v.Base()) != text(before.draft.Base()) || text(w.v.Pending()) != text(before.draft.Pending()) || text(w.v.Taken()) != text(before.entries) {
		w.t.Fatalf("down with %+v, %+v", w.v.Base(), w.v.Pending())
	}
	if _, errno := w.v.Tick(); errno != api.ErrDeviceDown {
		w.t.Fatalf("down: Tick: %d", errno)
	}
	w.d = left(w.t, w.d, w.picks()...)
	taken, pending, _, _ := device.Kept(w.c, w.till, w.d)
	if len(taken) == len(before.entries) && len(pending) == len(before.draft.Pending()) {
		w.m = before
	} else {
		w.count["under way"]++
	}
	w.keeps(w.m)
	w.m.journal = transactions(w.t, w.d)
	w.startThroughCrashes()
}

// picks leave nothing, all or some of what is not safe.
func (w *walk) picks() []int {
	var out []int
	for range 3 {
		out = append(out, []int{0, -1, w.Intn(4000)}[w.Intn(3)])
	}
	return out
}

// startThroughCrashes starts the device, and lets the power go off in some of the starts.
func (w *walk) startThroughCrashes() {
	w.t.Helper()
	for w.Intn(2) == 0 {
		w.d.Plan(api.Plan{Off: 1 + w.Intn(5)})
		v, errno := device.Start(w.c, w.till, w.d)
		if errno == api.OK {
			w.d.Plan(api.Plan{})
			w.v = v
			w.m.start()
			w.same()
			return
		}
		if errno != api.ErrDiskOff || v != nil {
			w.t.Fatalf("Start: %v, %d", v, errno)
		}
		w.d = left(w.t, w.d, w.picks()...)
		if _, _, life, _ := device.Kept(w.c, w.till, w.d); life == w.m.life+1 {
			w.m.life++
		}
		w.keeps(w.m)
		w.m.journal = transactions(w.t, w.d)
		w.count["starts cut off"]++
	}
	w.start()
}

func (w *walk) step() {
	w.t.Helper()
	switch k := w.Intn(40); {
	case k < 7:
		if w.Intn(3) == 0 {
			w.s.Owe()
		}
		w.s.out = append(w.s.out, w.s.Tick()...)
	case k < 16:
		for range 1 + w.Intn(4) {
			w.serverHears()
		}
	case k < 17:
		w.serverActs()
	case k == 18 && w.Intn(12) == 0:
		w.serverStarts()
	case k == 19 && w.Intn(16) == 0:
		w.d = left(w.t, w.d)
		w.startThroughCrashes()
	case k == 20 && w.Intn(6) == 0:
		w.d.Plan(api.Plan{Off: w.Intn(9)})
	default:
		w.event()
	}
}

// Of P16.1 to P16.7, P16.9 and P16.10: whatever comes and is called, and wherever the power goes off.
func TestP16_9Drawn(t *testing.T) {
	count := map[string]int{}
	for seed := range int64(60) {
		w := chance{rand.New(rand.NewSource(seed))}.walk(t)
		for range 1500 {
			w.step()
			if t.Failed() {
				t.Fatalf("seed %d", seed)
			}
		}
		w.same()
		for what, n := range w.count {
			count[what] += n
		}
		for _, e := range w.m.entries {
			if e.Act.Kind == api.ActNone && e.Fence == w.till {
				count["fences"]++
			} else if e.Act.Kind != api.ActNone && e.Act.Till == w.till {
				count[fmt.Sprint("kind ", e.Act.Kind, " sure ", e.Act.Sure)]++
			}
		}
	}
	for _, x := range []struct {
		what  string
		least int
	}{
		{"taken", 3000}, {"crashes", 100}, {"under way", 20}, {"starts cut off", 50}, {"fences", 30},
		{"issue 0 true", 200}, {"issue 0 false", 2000}, {fmt.Sprint("issue ", int(api.ErrDraftRights), " false"), 500}, {fmt.Sprint("issue ", int(api.ErrDraftFull), " false"), 100},
		{"kind 1 sure true", 60}, {"kind 2 sure false", 200}, {"kind 3 sure false", 20}, {"kind 4 sure false", 20}, {"kind 5 sure false", 20},
	} {
		if count[x.what] < x.least {
			t.Errorf("%s: %d only", x.what, count[x.what])
		}
	}
}
