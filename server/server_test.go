package server_test

import (
	"bytes"
	"fmt"
	"slices"
	"strings"
	"testing"

	"till/act"
	"till/api"
	"till/book"
	"till/code"
	"till/disk"
	"till/journal"
	"till/link"
	"till/server"
)

const room = 1 << 20

// conf is the configuration of the chapter's examples.
func conf() api.Config {
	return api.Config{Tills: 2, Counters: []api.Counter{{Name: "box", Hi: 9, Start: 5}}, Lease: 5, Watch: 6, Beat: 2, Window: 4, Cap: 4, Flight: 100}
}

func emptyDisk(t *testing.T) *disk.Disk {
	t.Helper()
	d, errno := disk.New(room)
	if errno != api.OK {
		t.Fatal(errno)
	}
	return d
}

// left is the disk that a crash with these picks leaves.
func left(t *testing.T, d *disk.Disk, picks ...int) *disk.Disk {
	t.Helper()
	d, errno := disk.Load(d.Crash(picks), api.MaxRoom)
	if errno != api.OK {
		t.Fatal(errno)
	}
	return d
}

func started(t *testing.T, c api.Config, d *disk.Disk) *server.Server {
	t.Helper()
	s, errno := server.Start(c, d)
	if errno != api.OK || s == nil {
		t.Fatalf("Start: %v, %d", s, errno)
	}
	return s
}

// text tells anything, nil and empty lists alike.
func text(x any) string { return fmt.Sprintf("%+v", x) }

// files tells all that a disk holds, as it is seen.
func files(t *testing.T, d *disk.Disk) string {
	t.Helper()
	names, errno := d.List()
	if errno != api.OK {
		t.Fatal(errno)
	}
	var out []string
	for _, name := range names {
		b, _ := d.Read(name)
		out = append(out, fmt.Sprintf("%s: %x", name, b))
	}
	return strings.Join(out, "\n")
}

// transactions tells what the server's journal has.
func transactions(t *testing.T, d *disk.Disk) [][][]byte {
	t.Helper()
	j, errno := journal.Open(d, "server")
	if errno != api.OK {
		t.Fatalf("the journal: %d", errno)
	}
	return j.All()
}

func lifePart(life uint64) []byte {
	w := code.New()
	w.U8(1)
	w.U64(life)
	return w.Out()
}

func entryPart(t *testing.T, c api.Config, e api.Entry) []byte {
	t.Helper()
	b, errno := act.EncodeEntry(c, e)
	if errno != api.OK {
		t.Fatalf("%+v: %d", e, errno)
	}
	return append([]byte{2}, b...)
}

func ask(till int, number uint64, n int64) api.Act {
	return api.Act{Head: api.Head{Till: till, Number: number}, Kind: api.ActAsk, Right: api.Right{Way: api.Down, N: n}}
}

func fence(position uint64, till int, gen uint64) api.Entry {
	return api.Entry{Position: position, Fence: till, Gen: gen}
}

// peer is a till's side of a session, by hand: it numbers what it says, and acks what comes in order.
type peer struct{ life, said, heard uint64 }

// rig is a server with plain tills.
type rig struct {
	t     *testing.T
	c     api.Config
	d     *disk.Disk
	s     *server.Server
	tills []peer
}

func newRig(t *testing.T, c api.Config, d *disk.Disk) *rig {
	t.Helper()
	r := &rig{t: t, c: c, d: d, s: started(t, c, d)}
	for range c.Tills {
		r.tills = append(r.tills, peer{life: 1})
	}
	return r
}

// restart begins a life of the server over what a crash without picks leaves.
func (r *rig) restart() {
	r.t.Helper()
	r.d = left(r.t, r.d)
	r.s = started(r.t, r.c, r.d)
	for i := range r.tills {
		r.tills[i].said, r.tills[i].heard = 0, 0
	}
}

// frame makes a right one of a till.
func (r *rig) frame(till int) api.Frame {
	p := r.tills[till]
	return api.Frame{From: till, To: r.c.Tills, Mine: p.life, Yours: r.s.Life(), Ack: p.heard}
}

func (r *rig) hears(f api.Frame, want api.Errno) {
	r.t.Helper()
	b := link.EncodeFrame(f)
	if len(b) == 0 {
		r.t.Fatalf("%+v is no frame", f)
	}
	if errno := r.s.Hear(b); errno != want {
		r.t.Fatalf("Hear(%+v): %d, want %d", f, errno, want)
	}
}

// word lets a till say a word, say a body.
func (r *rig) word(till int) {
	r.t.Helper()
	r.hears(r.frame(till), api.OK)
}

func (r *rig) bytes(till int, body []byte, want api.Errno) {
	r.t.Helper()
	r.tills[till].said++
	f := r.frame(till)
	f.Seq, f.Body = r.tills[till].said, body
	r.hears(f, want)
}

func (r *rig) say(till int, x act.Body) {
	r.t.Helper()
	r.bytes(till, r.made(x), api.OK)
}

func (r *rig) made(x act.Body) []byte {
	r.t.Helper()
	b, errno := act.Make(r.c, x)
	if errno != api.OK {
		r.t.Fatalf("%+v: %d", x, errno)
	}
	return b
}

func (r *rig) act(a api.Act) {
	r.t.Helper()
	r.say(a.Till, act.Body{Kind: act.BodyAct, Act: a})
}

func (r *rig) hello(till int, position uint64) {
	r.t.Helper()
	r.say(till, act.Body{Kind: act.BodyHello, Position: position})
}

// out tells a flight: to whom, the frame's number and ack, an entry's position.
func (r *rig) out(m api.Flight) string {
	r.t.Helper()
	f, ok := link.DecodeFrame(m.Bytes)
	if !ok || f.From != r.c.Tills || f.To != m.To || f.Mine != r.s.Life() {
		r.t.Fatalf("flight %+v: %+v, %v", m, f, ok)
	}
	if p := &r.tills[f.To]; f.Seq == p.heard+1 {
		p.heard++
	}
	if f.Seq == 0 {
		return fmt.Sprintf("%d:word/%d", f.To, f.Ack)
	}
	x, errno := act.Read(r.c, f.Body)
	if at, ok := entryAt(r.s, x.Entry.Position); errno != api.OK || x.Kind != act.BodyEntry || !ok || text(at) != text(x.Entry) {
		r.t.Fatalf("flight %+v: %+v, %d", m, x, errno)
	}
	return fmt.Sprintf("%d:%d/%d@%d", f.To, f.Seq, f.Ack, x.Entry.Position)
}

func entryAt(s *server.Server, position uint64) (api.Entry, bool) {
	all := s.Log()
	if position < 1 || position > uint64(len(all)) {
		return api.Entry{}, false
	}
	return all[position-1], true
}

func (r *rig) ticks(want string) {
	r.t.Helper()
	r.tells(func(int) bool { return true }, want)
}

// ticks0 looks at what goes to till 0 alone.
func (r *rig) ticks0(want string) {
	r.t.Helper()
	r.tells(func(to int) bool { return to == 0 }, want)
}

func (r *rig) tells(counts func(to int) bool, want string) {
	r.t.Helper()
	out, errno := r.s.Tick()
	var got []string
	for _, m := range out {
		if counts(m.To) {
			got = append(got, r.out(m))
		}
	}
	if g := strings.Join(got, " "); errno != api.OK || g != want {
		r.t.Fatalf("Tick: %q, %d, want %q", g, errno, want)
	}
}

// tick lets some ticks go by, whatever goes out.
func (r *rig) tick(n int) {
	r.t.Helper()
	for range n {
		if _, errno := r.s.Tick(); errno != api.OK {
			r.t.Fatalf("Tick: %d", errno)
		}
	}
}

// has holds the log against entries, the state against their fold, and both against what is kept.
func (r *rig) has(want ...api.Entry) {
	r.t.Helper()
	if g := r.s.Log(); text(g) != text(want) {
		r.t.Fatalf("Log: %+v\nwant %+v", g, want)
	}
	if g := r.s.State(); text(g) != text(folded(r.t, r.c, want)) {
		r.t.Fatalf("State: %+v", g)
	}
	if g, life, ok := server.Kept(r.c, left(r.t, r.d)); !ok || text(g) != text(want) || life != r.s.Life() {
		r.t.Fatalf("Kept: %+v, %d, %v\nwant %+v", g, life, ok, want)
	}
}

func (r *rig) length(want int) {
	r.t.Helper()
	if g := len(r.s.Log()); g != want {
		r.t.Fatalf("the log has %d entries, want %d", g, want)
	}
}

func folded(t *testing.T, c api.Config, entries []api.Entry) api.State {
	t.Helper()
	s := book.First(c)
	for _, e := range entries {
		next, errno := book.Fold(c, s, e)
		if errno != api.OK {
			t.Fatalf("%+v does not fold: %d", e, errno)
		}
		s = next
	}
	return s
}

// granted is the entry of an ask.
func granted(position uint64, a api.Act, n int64) api.Entry {
	return api.Entry{Position: position, Act: a, Outcome: api.Granted, N: n}
}

// The chapter's examples.
func TestP15Examples(t *testing.T) {
	r := newRig(t, conf(), emptyDisk(t))
	if s := r.s.State(); r.s.Life() != 1 || s.Pools[0].Free != [2]int64{5, 4} {
		t.Errorf("life %d, %+v", r.s.Life(), s)
	}
	r.has()
	r.ticks("0:word/0 1:word/0")
	r.hears(api.Frame{From: 0, To: 2, Mine: 1}, api.OK)
	r.hello(0, 0)
	r.act(ask(0, 1, 3))
	first := granted(1, ask(0, 1, 3), 3)
	r.has(first)
	r.ticks("0:1/2@1 1:word/0")
	r.act(ask(0, 1, 3))
	r.act(ask(0, 3, 3))
	r.say(0, act.Body{Kind: act.BodyAct, Act: ask(1, 1, 3)})
	r.has(first)

	r.tick(5)
	r.has(first)
	r.tick(1)
	second := fence(2, 0, 1)
	r.has(first, second)
	r.tick(30)
	r.has(first, second)

	for stroke := 1; stroke <= 2; stroke++ {
		for _, picks := range [][]int{nil, {0, 3}, {-1, -1}} {
			r := newRig(t, conf(), left(t, r.d))
			life := r.s.Life()
			r.d.Plan(api.Plan{Off: stroke})
			r.bytes(0, r.made(act.Body{Kind: act.BodyAct, Act: ask(0, 2, 1)}), api.ErrServerDown)
			if _, errno := r.s.Tick(); errno != api.ErrServerDown {
				t.Errorf("Tick of one that is down: %d", errno)
			}
			s := started(t, r.c, left(t, r.d, picks...))
			if g := s.Log(); s.Life() != life+1 || len(g) < 2 || len(g) > 3 || text(g[:2]) != text([]api.Entry{first, second}) {
				t.Errorf("life %d, %+v", s.Life(), g)
			}
		}
	}

	img := r.d.Crash(nil)
	img[0].Data[len(img[0].Data)/2] ^= 0x10
	d, _ := disk.Load(img, room)
	if l, life, ok := server.Kept(r.c, d); len(l) != 0 || life != 0 || ok {
		t.Errorf("Kept of a damaged disk: %+v, %d, %v", l, life, ok)
	}
	if s, errno := server.Start(r.c, d); s != nil || errno != api.ErrJournalDamage {
		t.Errorf("Start over a damaged disk: %v, %d", s, errno)
	}
}

func TestP15_2NoFrames(t *testing.T) {
	r := newRig(t, conf(), emptyDisk(t))
	r.ticks("0:word/0 1:word/0")
	body := r.made(act.Body{Kind: act.BodyAct, Act: ask(0, 1, 3)})
	right := r.frame(0)
	right.Seq, right.Body = 1, body
	for _, change := range []func(*api.Frame){
		func(f *api.Frame) { f.To = 0 },
		func(f *api.Frame) { f.To = 1 },
		func(f *api.Frame) { f.To = 3 },
		func(f *api.Frame) { f.From = 2 },
		func(f *api.Frame) { f.From = 3 },
		func(f *api.Frame) { f.From = api.MaxTills },
		func(f *api.Frame) { f.From, f.To = 2, 0 },
		func(f *api.Frame) { f.From, f.To = 2, 2 },
	} {
		f := right
		change(&f)
		r.hears(f, api.OK)
	}
	whole := link.EncodeFrame(right)
	for i := range whole {
		turned := bytes.Clone(whole)
		turned[i] ^= 4
		for _, b := range [][]byte{turned, whole[:i]} {
			if errno := r.s.Hear(b); errno != api.OK {
				t.Errorf("Hear(%x): %d", b, errno)
			}
		}
	}
	for _, b := range [][]byte{nil, {}, append(bytes.Clone(whole), 0), make([]byte, api.MaxFrame+1), bytes.Repeat([]byte{0xff}, 5000)} {
		if errno := r.s.Hear(b); errno != api.OK {
			t.Errorf("Hear(%x): %d", b, errno)
		}
	}
	r.has()
	r.ticks("0:word/0 1:word/0") // its links have heard nothing
	r.hears(right, api.OK)
	r.length(1)
}

// Anew closes the stream, whether the frame is right or not; and ahead of its body.
func TestP15_2Anew(t *testing.T) {
	r := newRig(t, conf(), emptyDisk(t))
	r.hello(0, 0)
	r.act(ask(0, 1, 1))
	r.ticks0("0:1/2@1")

	r.tills[0] = peer{life: 2}
	f := r.frame(0)
	f.Yours = 0
	r.hears(f, api.OK)
	r.act(ask(0, 2, 1))
	r.ticks0("0:word/1") // an ack, and no entry
	r.hello(0, 1)        // one who has the first entry
	r.ticks0("0:1/2@2")

	r.tills[0] = peer{life: 3}
	r.hello(0, 0) // with this very frame a new session begins
	r.ticks0("0:1/1@1 0:2/1@2")
	r.act(ask(0, 3, 1))
	r.ticks0("0:3/2@3")

	r.tills[0] = peer{life: 2} // a frame of a former life does nothing
	r.word(0)
	r.tills[0] = peer{life: 3, said: 2, heard: 3}
	r.act(ask(0, 4, 1))
	r.ticks0("0:4/3@4")
}

func TestP15_2Words(t *testing.T) {
	r := newRig(t, conf(), emptyDisk(t))
	r.ticks("0:word/0 1:word/0")
	r.ticks("0:word/0 1:word/0")
	r.word(0) // answered at the next tick, once
	r.ticks("0:word/0")
	r.ticks("1:word/0")
	r.word(0)
	r.word(0)
	r.ticks("0:word/0")
	r.ticks("")
	f := r.frame(0)
	f.Seq, f.Body = 5, []byte("not the next one") // an ack is owed, and none asked for
	r.hears(f, api.OK)
	r.ticks("0:word/0")
	r.ticks("1:word/0")
	r.bytes(0, nil, api.OK) // a body without bytes is a body
	r.ticks("0:word/1")
	r.ticks("")
	f = r.frame(0)
	f.Mine = 9
	f.Yours = 0 // not right: a word by the pace
	r.hears(f, api.OK)
	r.ticks("0:word/0")
	r.ticks("0:word/0 1:word/0")
	r.ticks("")
	r.ticks("0:word/0")
}

func TestP15_2Hello(t *testing.T) {
	r := newRig(t, conf(), emptyDisk(t))
	for i := range uint64(4) {
		r.act(ask(0, i+1, 1))
	}
	r.ticks("0:word/4 1:word/0")
	for _, position := range []uint64{5, 6, 100, api.MaxLog} {
		r.hello(1, position) // above the log's length: it stays closed
	}
	r.ticks("1:word/4")
	r.hello(1, 2)
	r.ticks("1:1/5@3 1:2/5@4")
	r.hello(1, 0) // it is open
	r.hello(1, 4)
	r.ticks("1:word/7")
	r.act(ask(1, 1, 1))
	r.ticks("1:3/8@5") // to till 0 nothing: its stream is not open
	r.hello(0, 5)
	r.ticks0("0:word/5") // all there is, it has
	r.act(ask(1, 2, 1))
	r.ticks("0:1/5@6 1:4/9@6")
}

// A row longer than the window goes out step by step.
func TestP15_2HelloOfMany(t *testing.T) {
	r := newRig(t, conf(), emptyDisk(t))
	for i := range uint64(10) {
		r.act(ask(0, i+1, 1))
	}
	r.hello(1, 0)
	r.ticks("0:word/10 1:1/1@1 1:2/1@2 1:3/1@3 1:4/1@4")
	r.word(1)
	r.ticks("1:5/1@5 1:6/1@6 1:7/1@7 1:8/1@8")
	r.word(1)
	r.ticks("1:9/1@9 1:10/1@10")
}

func TestP15_2Acts(t *testing.T) {
	r := newRig(t, conf(), emptyDisk(t))
	r.hello(0, 0)
	r.hello(1, 0)
	write := api.Act{Head: api.Head{Till: 1, Number: 1}, Kind: api.ActWrite, Lines: []api.Line{{Change: -2}}, Merge: api.Merge{Kind: api.MergeClamp}}
	r.act(ask(0, 1, 4))
	r.act(write) // one is free
	sure := api.Act{Head: api.Head{Till: 0, Number: 2}, Kind: api.ActWrite, Sure: true, Lines: []api.Line{{Change: -3}}}
	r.act(sure)
	give := api.Act{Head: api.Head{Till: 1, Number: 2}, Kind: api.ActGive, Right: api.Right{N: 1}}
	r.act(give)
	r.has(
		granted(1, ask(0, 1, 4), 4),
		api.Entry{Position: 2, Act: write, Outcome: api.Merged, Made: []api.Line{{Change: -1}}},
		api.Entry{Position: 3, Act: sure, Outcome: api.Applied, Made: []api.Line{{Change: -3}}},
		api.Entry{Position: 4, Act: give, Outcome: api.Rejected},
	)
	r.ticks("0:1/3@1 0:2/3@2 0:3/3@3 0:4/3@4 1:1/3@1 1:2/3@2 1:3/3@3 1:4/3@4")
	if g := r.s.State(); g.Last[0] != 2 || g.Last[1] != 2 || g.Pools[0].Value != 1 {
		t.Errorf("%+v", g)
	}
}

func TestP15_2BodiesThatDoNothing(t *testing.T) {
	r := newRig(t, conf(), emptyDisk(t))
	r.hello(0, 0)
	r.act(ask(0, 1, 1))
	r.ticks("0:1/2@1 1:word/0")
	entry := r.s.Log()[0]
	before := files(t, r.d)
	next := r.made(act.Body{Kind: act.BodyAct, Act: ask(0, 2, 1)})
	bad := ask(0, 2, 1)
	bad.Right.N = api.MaxAmount
	over := r.made(act.Body{Kind: act.BodyAct, Act: bad})
	over[len(over)-1]++ // above MaxAmount: no act that may be
	for _, b := range [][]byte{
		nil,
		{0},
		{4},
		next[:len(next)-1],
		append(bytes.Clone(next), 0),
		over,
		bytes.Repeat([]byte{2}, api.MaxBody),
		r.made(act.Body{Kind: act.BodyAct, Act: ask(0, 1, 1)}),
		r.made(act.Body{Kind: act.BodyAct, Act: ask(0, 3, 1)}),
		r.made(act.Body{Kind: act.BodyAct, Act: ask(0, api.MaxNumber, 1)}),
		r.made(act.Body{Kind: act.BodyAct, Act: ask(1, 1, 1)}),
		r.made(act.Body{Kind: act.BodyAct, Act: ask(1, 2, 1)}),
		r.made(act.Body{Kind: act.BodyEntry, Entry: entry}),
		r.made(act.Body{Kind: act.BodyEntry, Entry: fence(2, 0, 1)}),
		r.made(act.Body{Kind: act.BodyHello}),
	} {
		r.bytes(0, b, api.OK)
		r.has(entry)
		r.ticks0(fmt.Sprintf("0:word/%d", r.tills[0].said)) // acked all the same
	}
	if g := files(t, r.d); g != before {
		t.Errorf("the disk holds %s", g)
	}
	r.bytes(0, next, api.OK)
	r.length(2)
}

// Each till's acts are in order by themselves.
func TestP15_2Interleaved(t *testing.T) {
	c := conf()
	c.Tills = api.MaxTills
	r := newRig(t, c, emptyDisk(t))
	for number := uint64(1); number <= 5; number++ {
		for _, till := range []int{7, 0, 3} {
			r.act(ask(till, number, 1))
			r.say(till, act.Body{Kind: act.BodyAct, Act: ask(till, number, 1)})
		}
	}
	r.length(15)
	if g := r.s.State().Last; !slices.Equal(g, []uint64{5, 0, 0, 5, 0, 0, 0, 5}) {
		t.Errorf("Last: %v", g)
	}
}
