package device_test

import (
	"bytes"
	"fmt"
	"strings"
	"testing"

	"till/act"
	"till/api"
	"till/book"
	"till/code"
	"till/device"
	"till/disk"
	"till/draft"
	"till/journal"
	"till/link"
)

const room = 1 << 20

// conf is the configuration of the chapter's examples.
func conf() api.Config {
	return api.Config{Tills: 2, Counters: []api.Counter{{Name: "tea", Hi: 10, Start: 4}}, Prices: []api.Price{{Name: "tea", Start: 250}}, Lease: 20, Watch: 16, Beat: 8, Window: 4, Cap: 8, Flight: 100}
}

func emptyDisk(t *testing.T) *disk.Disk {
	t.Helper()
	d, errno := disk.New(room)
	if errno != api.OK {
		t.Fatal(errno)
	}
	return d
}

// left is the disk that a crash with these picks leaves.
func left(t *testing.T, d *disk.Disk, picks ...int) *disk.Disk {
	t.Helper()
	d, errno := disk.Load(d.Crash(picks), api.MaxRoom)
	if errno != api.OK {
		t.Fatal(errno)
	}
	return d
}

func started(t *testing.T, c api.Config, till int, d *disk.Disk) *device.Device {
	t.Helper()
	v, errno := device.Start(c, till, d)
	if errno != api.OK || v == nil {
		t.Fatalf("Start: %v, %d", v, errno)
	}
	return v
}

// text tells anything, nil and empty lists alike.
func text(x any) string { return fmt.Sprintf("%+v", x) }

// transactions tells what a till's journal has.
func transactions(t *testing.T, d *disk.Disk) [][][]byte {
	t.Helper()
	j, errno := journal.Open(d, "till")
	if errno != api.OK {
		t.Fatalf("the journal: %d", errno)
	}
	return j.All()
}

func lifePart(life uint64) []byte {
	w := code.New()
	w.U8(1)
	w.U64(life)
	return w.Out()
}

func actPart(t *testing.T, c api.Config, a api.Act) []byte {
	t.Helper()
	b, errno := act.Encode(c, a)
	if errno != api.OK {
		t.Fatalf("%+v: %d", a, errno)
	}
	return append([]byte{2}, b...)
}

func entryPart(t *testing.T, c api.Config, e api.Entry) []byte {
	t.Helper()
	b, errno := act.EncodeEntry(c, e)
	if errno != api.OK {
		t.Fatalf("%+v: %d", e, errno)
	}
	return append([]byte{3}, b...)
}

func parts(p ...[]byte) [][]byte { return p }

// write, ask, give and pass are what is handed to Issue: without a head.
func write(changes ...int64) api.Act {
	a := api.Act{Kind: api.ActWrite}
	for _, n := range changes {
		a.Lines = append(a.Lines, api.Line{Change: n})
	}
	return a
}

func down(n int64) api.Right { return api.Right{Way: api.Down, N: n} }

func up(n int64) api.Right { return api.Right{Way: api.Up, N: n} }

func ask(x api.Right) api.Act { return api.Act{Kind: api.ActAsk, Right: x} }

func give(x api.Right) api.Act { return api.Act{Kind: api.ActGive, Right: x} }

func pass(to int, x api.Right) api.Act { return api.Act{Kind: api.ActPass, Right: x, To: to} }

func yield(gen uint64, rights ...api.Right) api.Act {
	return api.Act{Kind: api.ActYield, Gen: gen, Rights: rights}
}

// as gives an act its head.
func as(till int, number uint64, a api.Act) api.Act {
	a.Till, a.Number = till, number
	return a
}

func sure(a api.Act) api.Act {
	a.Sure = true
	return a
}

// rig is a device with a plain server, by hand: that numbers what it says, and acks what comes in order.
type rig struct {
	t           *testing.T
	c           api.Config
	till        int
	d           *disk.Disk
	v           *device.Device
	life        uint64 // the server's
	said, heard uint64
}

func newRig(t *testing.T, c api.Config, till int, d *disk.Disk) *rig {
	t.Helper()
	return &rig{t: t, c: c, till: till, d: d, v: started(t, c, till, d), life: 1}
}

// talking is a rig of till 0 in a session: its hello has gone out.
func talking(t *testing.T) *rig {
	t.Helper()
	r := newRig(t, conf(), 0, emptyDisk(t))
	r.word()
	r.ticks("1/0:hello 0")
	return r
}

// holding is one that holds 3 rights down, and whose server has been told all that it has said.
func holding(t *testing.T) *rig {
	t.Helper()
	r := talking(t)
	r.word()
	r.issued(ask(down(3)), api.Loose, 1, false)
	r.ticks("2/0:act 1")
	r.entry(r.next())
	r.ticks("word/1")
	return r
}

// restart begins a life over what a crash without picks leaves.
func (r *rig) restart() {
	r.t.Helper()
	r.d = left(r.t, r.d)
	r.v = started(r.t, r.c, r.till, r.d)
	r.said, r.heard = 0, 0
}

// frame makes a right one of the server's.
func (r *rig) frame() api.Frame {
	return api.Frame{From: r.c.Tills, To: r.till, Mine: r.life, Yours: r.v.Life(), Ack: r.heard}
}

func (r *rig) hears(f api.Frame, want api.Errno) {
	r.t.Helper()
	b := link.EncodeFrame(f)
	if len(b) == 0 {
		r.t.Fatalf("%+v is no frame", f)
	}
	if errno := r.v.Hear(b); errno != want {
		r.t.Fatalf("Hear(%+v): %d, want %d", f, errno, want)
	}
}

// word lets the server say a word; bytes, say and entry a body.
func (r *rig) word() {
	r.t.Helper()
	r.hears(r.frame(), api.OK)
}

func (r *rig) bytes(body []byte, want api.Errno) {
	r.t.Helper()
	r.said++
	f := r.frame()
	f.Seq, f.Body = r.said, body
	r.hears(f, want)
}

func (r *rig) made(x act.Body) []byte {
	r.t.Helper()
	b, errno := act.Make(r.c, x)
	if errno != api.OK {
		r.t.Fatalf("%+v: %d", x, errno)
	}
	return b
}

func (r *rig) say(x act.Body) {
	r.t.Helper()
	r.bytes(r.made(x), api.OK)
}

func (r *rig) entry(e api.Entry) {
	r.t.Helper()
	r.say(act.Body{Kind: act.BodyEntry, Entry: e})
}

// next is the entry of the first pending act, other that of another till's, fence a fence's, behind the base.
func (r *rig) next() api.Entry {
	r.t.Helper()
	return book.Next(r.c, r.v.Base(), r.v.Pending()[0])
}

func (r *rig) other(till int, a api.Act) api.Entry {
	s := r.v.Base()
	return book.Next(r.c, s, as(till, s.Last[till]+1, a))
}

func (r *rig) fence(till int) api.Entry {
	r.t.Helper()
	e, ok := book.Fence(r.c, r.v.Base(), till)
	if !ok {
		r.t.Fatalf("no fence of %d", till)
	}
	return e
}

func (r *rig) issued(a api.Act, takes int, number uint64, isSure bool) {
	r.t.Helper()
	if told, errno := r.v.Issue(a, takes); errno != api.OK || told != (api.Told{Number: number, Sure: isSure}) {
		r.t.Fatalf("Issue(%+v, %d): %+v, %d", a, takes, told, errno)
	}
}

// notIssued: the error, and nothing has changed.
func (r *rig) notIssued(a api.Act, takes int, want api.Errno) {
	r.t.Helper()
	before, strokes, held := r.all(), r.d.Strokes(), seen(r.d)
	if told, errno := r.v.Issue(a, takes); errno != want || told != (api.Told{}) {
		r.t.Fatalf("Issue(%+v, %d): %+v, %d, want %d", a, takes, told, errno, want)
	}
	if r.all() != before || r.d.Strokes() != strokes || seen(r.d) != held {
		r.t.Fatalf("Issue(%+v, %d) has changed something", a, takes)
	}
}

// all is what a device tells of itself.
func (r *rig) all() string {
	return text([]any{r.v.Life(), r.v.Runs(), r.v.Base(), r.v.View(), r.v.Pending(), r.v.Taken()})
}

func seen(d *disk.Disk) string {
	if d == nil {
		return ""
	}
	return text(d.Crash([]int{-1, -1, -1}))
}

// out tells a flight: the frame's number, its ack, its body.
func (r *rig) out(m api.Flight) string {
	r.t.Helper()
	f, ok := link.DecodeFrame(m.Bytes)
	if !ok || m.To != r.c.Tills || f.To != m.To || f.From != r.till || f.Mine != r.v.Life() {
		r.t.Fatalf("flight %+v: %+v, %v", m, f, ok)
	}
	if f.Seq == r.heard+1 {
		r.heard++
	}
	if f.Seq == 0 {
		return fmt.Sprintf("word/%d", f.Ack)
	}
	x, errno := act.Read(r.c, f.Body)
	switch {
	case errno == api.OK && x.Kind == act.BodyHello:
		return fmt.Sprintf("%d/%d:hello %d", f.Seq, f.Ack, x.Position)
	case errno == api.OK && x.Kind == act.BodyAct && r.knows(x.Act):
		return fmt.Sprintf("%d/%d:act %d", f.Seq, f.Ack, x.Act.Number)
	}
	r.t.Fatalf("flight %+v: %+v, %d", m, x, errno)
	return ""
}

// knows tells whether an act is pending or committed, as it stands.
func (r *rig) knows(a api.Act) bool {
	for _, p := range r.v.Pending() {
		if text(p) == text(a) {
			return true
		}
	}
	for _, e := range r.v.Taken() {
		if text(e.Act) == text(a) {
			return true
		}
	}
	return false
}

func (r *rig) ticks(want string) {
	r.t.Helper()
	out, errno := r.v.Tick()
	var got []string
	for _, m := range out {
		got = append(got, r.out(m))
	}
	if g := strings.Join(got, " "); errno != api.OK || g != want {
		r.t.Fatalf("Tick: %q, %d, want %q", g, errno, want)
	}
}

// tick lets some ticks go by, whatever goes out.
func (r *rig) tick(n int) {
	r.t.Helper()
	for range n {
		if _, errno := r.v.Tick(); errno != api.OK {
			r.t.Fatalf("Tick: %d", errno)
		}
	}
}

// flush lets all go out that is to be said, and acks it.
func (r *rig) flush() {
	r.t.Helper()
	for {
		out, errno := r.v.Tick()
		if errno != api.OK {
			r.t.Fatalf("Tick: %d", errno)
		}
		if len(out) == 0 {
			return
		}
		for _, m := range out {
			r.out(m)
		}
		r.word()
	}
}

// has holds all that a device tells against what it must have taken and have pending, and that against what is kept.
func (r *rig) has(taken []api.Entry, pending []api.Act) {
	r.t.Helper()
	if g := r.v.Taken(); text(g) != text(taken) {
		r.t.Fatalf("Taken: %+v\nwant %+v", g, taken)
	}
	if g := r.v.Pending(); text(g) != text(pending) {
		r.t.Fatalf("Pending: %+v\nwant %+v", g, pending)
	}
	d, errno := draft.Load(r.c, r.till, taken, pending)
	if errno != api.OK {
		r.t.Fatalf("Load: %d", errno)
	}
	if text(r.v.Base()) != text(d.Base()) || text(r.v.View()) != text(d.View()) {
		r.t.Fatalf("Base: %+v\nView: %+v", r.v.Base(), r.v.View())
	}
	kept, acts, life, ok := device.Kept(r.c, r.till, left(r.t, r.d))
	if !ok || life != r.v.Life() || text(kept) != text(taken) || text(acts) != text(pending) {
		r.t.Fatalf("Kept: %+v, %+v, %d, %v", kept, acts, life, ok)
	}
}

// journalEnds: the journal's last transactions are these.
func (r *rig) journalEnds(want ...[][]byte) {
	r.t.Helper()
	g := transactions(r.t, left(r.t, r.d))
	if len(g) < len(want) || text(g[len(g)-len(want):]) != text(want) {
		r.t.Fatalf("the journal has %v\nwant at its end %v", g, want)
	}
}

// The chapter's examples.
func TestP16Examples(t *testing.T) {
	r := newRig(t, conf(), 0, emptyDisk(t))
	r.life = 3
	if g := transactions(t, r.d); r.v.Life() != 1 || text(g) != text([][][]byte{parts([]byte{1, 0, 0, 0, 0, 0, 0, 0, 1})}) {
		t.Errorf("life %d, %v", r.v.Life(), g)
	}
	if v := started(t, conf(), 0, left(t, r.d)); v.Life() != 2 {
		t.Errorf("life %d", v.Life())
	}
	refused(t, conf(), 2, r.d, api.ErrActConfig)
	none := conf()
	none.Counters = nil
	refused(t, none, 0, r.d, api.ErrActConfig)

	out, errno := r.v.Tick()
	if errno != api.OK || len(out) != 1 || out[0].To != 2 {
		t.Fatalf("Tick: %v, %d", out, errno)
	}
	if f, _ := link.DecodeFrame(out[0].Bytes); text(f) != text(api.Frame{From: 0, To: 2, Mine: 1}) {
		t.Errorf("the first word: %+v", f)
	}
	r.issued(write(-1), api.Best, 1, false)
	if r.v.View().Pools[0].Value != 3 || r.v.Base().Pools[0].Value != 4 {
		t.Errorf("%+v, %+v", r.v.View(), r.v.Base())
	}
	r.notIssued(write(-1), api.Sure, api.ErrDraftRights)
	r.ticks("word/0")

	before := r.all()
	if errno := r.v.Hear([]byte("no frame")); errno != api.OK {
		t.Errorf("Hear: %d", errno)
	}
	f := r.frame()
	f.From = 1
	r.hears(f, api.OK)
	if r.all() != before || r.v.Runs() {
		t.Errorf("it is %s", r.all())
	}
	r.word()
	r.ticks("1/0:hello 0 2/0:act 1")
	if !r.v.Runs() {
		t.Error("the lease does not run")
	}

	r.d.Plan(api.Plan{Off: 1})
	if told, errno := r.v.Issue(write(-1), api.Best); errno != api.ErrDeviceDown || told != (api.Told{}) {
		t.Errorf("Issue: %+v, %d", told, errno)
	}
	r.isDown()
	found := map[int]int{}
	for _, picks := range [][]int{nil, {0, 3}, {-1, -1}} {
		v := started(t, r.c, 0, left(t, r.d, picks...))
		found[len(v.Pending())]++
		if v.Life() != 2 {
			t.Errorf("life %d", v.Life())
		}
	}
	if len(found) != 2 || found[1] == 0 || found[2] == 0 {
		t.Errorf("pending: %v", found)
	}
}

func TestP16_3Issue(t *testing.T) {
	r := holding(t)
	first := r.v.Taken()
	guarded := write(-1)
	guarded.Guards = []api.Guard{{Kind: api.GuardLeast, N: 1}}
	priced := api.Act{Kind: api.ActWrite, Sets: []api.Set{{Version: -1, N: 9}}}
	clamped := write(-9)
	clamped.Merge.Kind = api.MergeClamp
	var pending []api.Act
	for i, x := range []struct {
		a     api.Act
		takes int
		sure  bool
	}{
		{write(-1), api.Sure, true},
		{write(-1), api.Best, true},
		{write(-1), api.Loose, false},
		{write(-1), 7, false},
		{write(-1), -1, false},
		{write(-2), api.Best, false},
		{guarded, api.Best, false},
		{priced, api.Best, false},
		{clamped, api.Best, false},
		{ask(up(2)), api.Sure, false},
		{give(down(1)), api.Sure, false},
		{pass(1, up(1)), api.Best, false},
	} {
		if x.a.Kind == api.ActPass {
			r.notIssued(x.a, x.takes, api.ErrDraftRights)
			continue
		}
		number := uint64(i) + 2
		r.issued(as(1, 77, sure(x.a)), x.takes, number, x.sure) // its head and Sure are not looked at
		a := as(0, number, x.a)
		a.Sure = x.sure
		pending = append(pending, a)
		r.has(first, pending)
		r.journalEnds(parts(actPart(t, r.c, a)))
	}
	r.notIssued(give(down(1)), api.Loose, api.ErrDraftRights) // all three are spoken for
	r.notIssued(write(-1), api.Sure, api.ErrDraftRights)
	r.ticks("3/1:act 2 4/1:act 3 5/1:act 4 6/1:act 5")
	r.word()
	r.ticks("7/1:act 6 8/1:act 7 9/1:act 8 10/1:act 9")
	r.word()
	r.ticks("11/1:act 10 12/1:act 11 13/1:act 12")
	r.word()
	r.ticks("")
}

func TestP16_3Refused(t *testing.T) {
	r := holding(t)
	r.issued(write(-1), api.Sure, 2, true)
	much := ask(down(api.MaxAmount + 1))
	for _, x := range []struct {
		a     api.Act
		takes int
		want  api.Errno
	}{
		{api.Act{}, api.Loose, api.ErrActKind},
		{yield(1), api.Loose, api.ErrActKind},
		{api.Act{Kind: 99}, api.Loose, api.ErrActKind},
		{api.Act{Kind: api.ActAsk, Right: down(1), To: 1}, api.Loose, api.ErrActKind},
		{write(), api.Loose, api.ErrActLine},
		{write(0), api.Sure, api.ErrActLine},
		{api.Act{Kind: api.ActWrite, Lines: []api.Line{{Counter: 1, Change: 1}}}, api.Best, api.ErrActLine},
		{api.Act{Kind: api.ActWrite, Guards: []api.Guard{{}}, Lines: []api.Line{{Change: 1}}}, api.Best, api.ErrActGuard},
		{api.Act{Kind: api.ActWrite, Sets: []api.Set{{Price: 1, Version: -1}}}, api.Best, api.ErrActSet},
		{api.Act{Kind: api.ActWrite, Lines: []api.Line{{Change: 1}}, Merge: api.Merge{Kind: api.MergeOther}}, api.Best, api.ErrActMerge},
		{much, api.Loose, api.ErrActRight},
		{pass(0, down(1)), api.Loose, api.ErrActRight},
		{pass(2, down(1)), api.Loose, api.ErrActRight},
		{write(-3), api.Sure, api.ErrDraftRights},
		{write(-1, -1, -1), api.Sure, api.ErrDraftRights},
		{write(1), api.Sure, api.ErrDraftRights},
		{give(down(3)), api.Loose, api.ErrDraftRights},
		{pass(1, down(3)), api.Loose, api.ErrDraftRights},
	} {
		r.notIssued(x.a, x.takes, x.want)
	}
	for number := uint64(3); number <= api.MaxPending+1; number++ {
		r.issued(ask(up(1)), api.Loose, number, false)
	}
	r.notIssued(ask(up(1)), api.Loose, api.ErrDraftFull)
	r.notIssued(write(-3), api.Sure, api.ErrDraftFull)
	r.notIssued(write(), api.Sure, api.ErrActLine)
	r.entry(r.next())
	r.issued(ask(up(1)), api.Loose, api.MaxPending+2, false) // a number that was refused is not used
}

// While the lease does not run nothing is sure.
func TestP16_3Lease(t *testing.T) {
	r := holding(t)
	r.word()
	for left := r.c.Lease; left > 0; left-- {
		if !r.v.Runs() {
			t.Fatalf("with %d left it does not run", left)
		}
		r.tick(1)
	}
	if r.v.Runs() {
		t.Error("it runs on")
	}
	r.notIssued(write(-1), api.Sure, api.ErrDraftRights)
	r.issued(write(-1), api.Best, 2, false)
	r.word()
	r.issued(write(-1), api.Best, 3, true)
	r.restart()
	r.notIssued(write(-1), api.Sure, api.ErrDraftRights)
	r.issued(write(-1), api.Best, 4, false)
	r.issued(give(down(1)), api.Best, 5, false) // what is no write needs no lease
	r.word()
	r.issued(write(-1), api.Sure, 6, true)
	r.notIssued(write(-1), api.Sure, api.ErrDraftRights)
}

// An act that is issued while the server's life is not known goes out in the session that comes, once.
func TestP16_3NotKnown(t *testing.T) {
	r := newRig(t, conf(), 1, emptyDisk(t))
	r.issued(ask(down(1)), api.Loose, 1, false)
	r.issued(ask(down(2)), api.Loose, 2, false)
	r.ticks("word/0")
	r.ticks("word/0")
	r.word()
	r.issued(ask(down(3)), api.Loose, 3, false)
	r.ticks("1/0:hello 0 2/0:act 1 3/0:act 2 4/0:act 3")
}

func TestP16_4NoFrames(t *testing.T) {
	r := newRig(t, conf(), 0, emptyDisk(t))
	r.ticks("word/0")
	r.ticks("word/0")
	r.issued(ask(down(3)), api.Loose, 1, false)
	before := r.all()
	right := r.frame()
	right.Seq, right.Body = 1, r.made(act.Body{Kind: act.BodyEntry, Entry: r.next()})
	for _, change := range []func(*api.Frame){
		func(f *api.Frame) { f.To = 1 },
		func(f *api.Frame) { f.To = 2 },
		func(f *api.Frame) { f.To = 3 },
		func(f *api.Frame) { f.From = 0 },
		func(f *api.Frame) { f.From = 1 },
		func(f *api.Frame) { f.From = 3 },
		func(f *api.Frame) { f.From = api.MaxTills },
		func(f *api.Frame) { f.From, f.To = 0, 2 },
	} {
		f := right
		change(&f)
		r.hears(f, api.OK)
	}
	whole := link.EncodeFrame(right)
	for i := range whole {
		turned := bytes.Clone(whole)
		turned[i] ^= 4
		for _, b := range [][]byte{turned, whole[:i]} {
			if errno := r.v.Hear(b); errno != api.OK {
				t.Errorf("Hear(%x): %d", b, errno)
			}
		}
	}
	for _, b := range [][]byte{nil, {}, append(bytes.Clone(whole), 0), make([]byte, api.MaxFrame+1), bytes.Repeat([]byte{0xff}, 5000)} {
		if errno := r.v.Hear(b); errno != api.OK {
			t.Errorf("Hear(%x): %d", b, errno)
		}
	}
	if g := r.all(); g != before {
		t.Errorf("it is %s\nwant %s", g, before)
	}
	// Its link has heard nothing: it does not know the server's life. (The pace began anew with the body: it is time at 1 and 2 of it, not at 3.)
	r.ticks("word/0")
	r.ticks("word/0")
	r.ticks("")
	r.hears(right, api.OK)
	if len(r.v.Taken()) != 1 {
		t.Error("the entry was not taken")
	}
}

// A session that is new begins with a hello, and behind it all that is pending, whether the frame is right or not.
func TestP16_4Anew(t *testing.T) {
	r := holding(t)
	r.issued(write(-1), api.Best, 2, true)
	r.issued(ask(down(1)), api.Best, 3, false)
	r.ticks("3/1:act 2 4/1:act 3")

	r.life, r.said, r.heard = 2, 0, 0
	f := r.frame()
	f.Yours = 0
	r.hears(f, api.OK)
	r.ticks("1/0:hello 1 2/0:act 2 3/0:act 3")
	r.word()
	r.ticks("")

	r.life, r.said, r.heard = 1, 0, 0 // a former life says nothing
	r.word()
	r.entry(r.next())
	r.has(r.v.Taken()[:1], r.v.Pending())
	r.ticks("")

	// With the very frame that begins it an entry may come: the hello's position is the one ahead of it, and the act of the entry is still pending there.
	r.life, r.said, r.heard = 3, 0, 0
	r.entry(r.next())
	if len(r.v.Taken()) != 2 || len(r.v.Pending()) != 1 {
		t.Errorf("%+v, %+v", r.v.Taken(), r.v.Pending())
	}
	r.ticks("1/1:hello 1 2/1:act 2 3/1:act 3")

	r.restart() // a new life of its own: likewise
	r.ticks("word/0")
	r.word()
	r.ticks("1/0:hello 2 2/0:act 3")
	r.issued(ask(down(1)), api.Loose, 4, false)
	r.ticks("1/0:hello 2 2/0:act 3 3/0:act 4") // 4 for the first time, the others since it is time
}

// More is pending than the window lets out at once.
func TestP16_4AnewOfMany(t *testing.T) {
	r := newRig(t, conf(), 1, emptyDisk(t))
	for number := uint64(1); number <= api.MaxPending; number++ {
		r.issued(ask(down(1)), api.Loose, number, false)
	}
	r.entry(fenceEntry(1, 1, 1))
	if g := len(r.v.Pending()); g != api.MaxPending+1 {
		t.Fatalf("%d are pending", g)
	}
	r.restart()
	r.word()
	r.ticks("1/0:hello 1 2/0:act 1 3/0:act 2 4/0:act 3")
	for first := uint64(4); first <= 64; first += 4 {
		r.word()
		var want []string
		for n := first; n < first+4 && n <= 65; n++ {
			want = append(want, fmt.Sprintf("%d/0:act %d", n+1, n))
		}
		r.ticks(strings.Join(want, " "))
	}
}

func fenceEntry(position uint64, till int, gen uint64) api.Entry {
	return api.Entry{Position: position, Fence: till, Gen: gen}
}

// Which frames let the lease run.
func TestP16_4Lease(t *testing.T) {
	for _, x := range []struct {
		name   string
		change func(f *api.Frame)
		right  bool
	}{
		{"a word", func(f *api.Frame) {}, true},
		{"a body", func(f *api.Frame) { f.Seq, f.Body = 2, []byte("any") }, true},
		{"a body that is not the next", func(f *api.Frame) { f.Seq = 9 }, true},
		{"a body that was handed up", func(f *api.Frame) { f.Seq = 1 }, true},
		{"an ack of nothing that was sent", func(f *api.Frame) { f.Ack = 99 }, true},
		{"a word of a new life", func(f *api.Frame) { f.Mine = 2 }, true},
		{"a word of a new life to no life", func(f *api.Frame) { f.Mine, f.Yours = 2, 0 }, false},
		{"a word to no life", func(f *api.Frame) { f.Yours = 0 }, false},
		{"a word to another life", func(f *api.Frame) { f.Yours = 2 }, false},
		{"a word of a till", func(f *api.Frame) { f.From = 1 }, false},
		{"a word to another", func(f *api.Frame) { f.To = 1 }, false},
	} {
		for _, before := range []int{0, 1, 19, 20, 30} {
			r := holding(t)
			r.word()
			r.tick(before)
			f := r.frame()
			x.change(&f)
			r.hears(f, api.OK)
			runs := r.c.Lease - before
			if x.right {
				runs = r.c.Lease
			}
			for i := range 40 {
				if r.v.Runs() != (i < runs) {
					t.Fatalf("%s behind %d ticks: at tick %d: %v", x.name, before, i, r.v.Runs())
				}
				r.tick(1)
			}
		}
	}
	r := newRig(t, conf(), 0, emptyDisk(t)) // a frame of a former life
	r.life = 2
	r.word()
	r.tick(r.c.Lease)
	r.life = 1
	r.word()
	if r.v.Runs() {
		t.Error("a former life's word lets it run")
	}
}

func TestP16_4Entries(t *testing.T) {
	r := holding(t)
	taken := r.v.Taken()
	r.issued(write(-2), api.Sure, 2, true)
	r.issued(give(down(1)), api.Loose, 3, false)
	pending := r.v.Pending()
	r.has(taken, pending)
	r.ticks("3/1:act 2 4/1:act 3")

	take := func(e api.Entry, left []api.Act) {
		t.Helper()
		r.entry(e)
		taken = append(taken, e)
		r.has(taken, left)
		r.journalEnds(parts(entryPart(t, r.c, e)))
		r.ticks(fmt.Sprintf("word/%d", r.said))
	}
	take(r.other(1, ask(up(2))), pending)
	take(r.fence(1), pending) // another till's: no yield of this one's
	take(r.next(), pending[1:])
	take(r.other(1, write(-9)), pending[1:])
	take(r.next(), nil)
	if s := r.v.Base(); s.Pools[0].Value != 2 || book.Any(s, 0) || text(r.v.View()) != text(s) {
		t.Errorf("%+v", s)
	}
}

func TestP16_4EntriesThatAreNotTaken(t *testing.T) {
	r := holding(t)
	r.issued(write(-2), api.Sure, 2, true)
	r.issued(ask(down(1)), api.Loose, 3, false)
	r.ticks("3/1:act 2 4/1:act 3")
	taken, pending := r.v.Taken(), r.v.Pending()
	good := r.next()
	change := func(f func(e *api.Entry)) api.Entry {
		e := good
		f(&e)
		return e
	}
	before := seen(r.d)
	for i, e := range []api.Entry{
		taken[0],
		change(func(e *api.Entry) { e.Position = 1 }),
		change(func(e *api.Entry) { e.Position = 3 }),
		change(func(e *api.Entry) { e.Position = api.MaxLog }),
		change(func(e *api.Entry) { e.Outcome, e.Made = api.Rejected, nil }),
		change(func(e *api.Entry) { e.Made = []api.Line{{Change: -1}} }),
		change(func(e *api.Entry) { e.Act.Lines, e.Made = []api.Line{{Change: -1}}, []api.Line{{Change: -1}} }), // folds, and is another act
		change(func(e *api.Entry) { e.Act.Sure = false }),
		change(func(e *api.Entry) { e.Act.Number = 3 }),
		change(func(e *api.Entry) { e.Act.Till, e.Act.Number = 1, 2 }),
		fenceEntry(2, 0, 2),
		fenceEntry(3, 0, 1),
	} {
		r.entry(e)
		r.has(taken, pending)
		r.ticks(fmt.Sprintf("word/%d", r.said)) // acked all the same
		if g := seen(r.d); g != before {
			t.Errorf("row %d: the disk holds %s", i, g)
		}
	}
	r.entry(good)
	r.has(append(taken, good), pending[1:])
}

func TestP16_4BodiesThatDoNothing(t *testing.T) {
	r := holding(t)
	r.issued(write(-2), api.Sure, 2, true)
	r.ticks("3/1:act 2")
	taken, pending := r.v.Taken(), r.v.Pending()
	good := r.made(act.Body{Kind: act.BodyEntry, Entry: r.next()})
	before := seen(r.d)
	for i, b := range [][]byte{
		nil,
		{0},
		{4},
		good[:len(good)-1],
		append(bytes.Clone(good), 0),
		good[1:],
		bytes.Repeat([]byte{3}, api.MaxBody),
		{3, 0x81, 0x10, 0, 1, 1}, // a fence at 2049
		r.made(act.Body{Kind: act.BodyHello}),
		r.made(act.Body{Kind: act.BodyHello, Position: 1}),
		r.made(act.Body{Kind: act.BodyAct, Act: pending[0]}),
		r.made(act.Body{Kind: act.BodyAct, Act: as(0, 3, ask(down(1)))}),
		r.made(act.Body{Kind: act.BodyAct, Act: as(1, 1, ask(down(1)))}),
	} {
		r.bytes(b, api.OK)
		r.has(taken, pending)
		r.ticks(fmt.Sprintf("word/%d", r.said))
		if g := seen(r.d); g != before {
			t.Errorf("row %d: the disk holds %s", i, g)
		}
	}
	// What does not stand in the session's order is not even handed up.
	f := r.frame()
	f.Seq, f.Body = r.said+2, good
	r.hears(f, api.OK)
	f.Seq = r.said
	r.hears(f, api.OK)
	r.has(taken, pending)
	r.bytes(good, api.OK)
	if len(r.v.Taken()) != 2 {
		t.Error("the entry was not taken")
	}
}

// A fence of this till is kept with the yield that it brings, which goes out like any act.
func TestP16_4Fence(t *testing.T) {
	r := holding(t)
	r.issued(write(-1), api.Sure, 2, true)
	r.issued(ask(up(1)), api.Loose, 3, false)
	r.ticks("3/1:act 2 4/1:act 3")
	taken, pending := r.v.Taken(), r.v.Pending()
	fence := r.fence(0)
	r.entry(fence)
	back := as(0, 4, yield(1, down(2)))
	taken, pending = append(taken, fence), append(pending, back)
	r.has(taken, pending)
	r.journalEnds(parts(entryPart(t, r.c, fence), actPart(t, r.c, back)))
	r.ticks("5/2:act 4")
	r.notIssued(write(-1), api.Sure, api.ErrDraftRights)
	r.notIssued(give(down(1)), api.Loose, api.ErrDraftRights)
	for range 3 {
		e := r.next()
		r.entry(e)
		taken, pending = append(taken, e), pending[1:]
		r.has(taken, pending)
	}
	if s := r.v.Base(); s.Owed[0] || s.Pools[0].Held[0] != [2]int64{0, 1} {
		t.Errorf("%+v", s)
	}
	r.issued(write(1), api.Sure, 5, true)
	fence = r.fence(0)
	r.entry(fence) // nothing is available: a yield of nothing
	r.has(append(taken, fence), []api.Act{r.v.Pending()[0], as(0, 6, yield(2))})
}

// The yield comes above the 64, too.
func TestP16_4FenceAboveFull(t *testing.T) {
	r := holding(t)
	for number := uint64(2); number <= api.MaxPending+1; number++ {
		r.issued(ask(up(1)), api.Loose, number, false)
	}
	taken, pending := r.v.Taken(), r.v.Pending()
	fence := r.fence(0)
	r.entry(fence)
	taken, pending = append(taken, fence), append(pending, as(0, 66, yield(1, down(3))))
	r.has(taken, pending)
	r.notIssued(ask(up(1)), api.Loose, api.ErrDraftFull)
	e := r.next()
	r.entry(e)
	r.has(append(taken, e), pending[1:])
	r.notIssued(ask(up(1)), api.Loose, api.ErrDraftFull)
	r.entry(r.next())
	r.issued(ask(up(1)), api.Loose, 67, false)
	taken, pending = r.v.Taken(), r.v.Pending()
	r.restart()
	r.has(taken, pending)
}
