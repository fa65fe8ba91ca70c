package device_test

import (
	"bytes"
	"testing"

	"till/act"
	"till/api"
	"till/book"
	"till/code"
	"till/device"
	"till/disk"
	"till/draft"
	"till/journal"
)

// written is a disk with a journal of these transactions.
func written(t *testing.T, transactions ...[][]byte) *disk.Disk {
	t.Helper()
	d, _ := disk.New(api.MaxRoom)
	j, errno := journal.Open(d, "till")
	if errno != api.OK {
		t.Fatal(errno)
	}
	for _, parts := range transactions {
		if errno := j.Add(parts); errno != api.OK {
			t.Fatal(errno)
		}
	}
	return d
}

// numbered is a disk whose journal has one transaction with that number.
func numbered(t *testing.T, number uint64, parts ...[]byte) *disk.Disk {
	t.Helper()
	body := code.New()
	body.U64(number)
	body.U32(uint32(len(parts)))
	for _, p := range parts {
		body.Bytes(p)
	}
	head := code.New()
	head.U8(0xa7)
	head.U32(uint32(body.Len()))
	head.U32(code.Sum(head.Out()))
	head.Raw(body.Out())
	head.U32(code.Sum(body.Out()))
	d, errno := disk.Load([]api.FileBytes{{Name: "till", Data: head.Out()}}, room)
	if errno != api.OK {
		t.Fatal(errno)
	}
	return d
}

// refused: Start answers that error and Kept nothing, and the disk is as it was.
func refused(t *testing.T, c api.Config, till int, d *disk.Disk, want api.Errno) {
	t.Helper()
	before, strokes := seen(d), strokesOf(d)
	if v, errno := device.Start(c, till, d); v != nil || errno != want {
		t.Errorf("Start: %v, %d, want %d", v, errno, want)
	}
	if l, acts, life, ok := device.Kept(c, till, d); len(l) != 0 || len(acts) != 0 || life != 0 || ok {
		t.Errorf("Kept: %v, %v, %d, %v", l, acts, life, ok)
	}
	if seen(d) != before || strokesOf(d) != strokes {
		t.Errorf("the disk has changed: %s", seen(d))
	}
}

func strokesOf(d *disk.Disk) int {
	if d == nil {
		return 0
	}
	return d.Strokes()
}

func TestP16_1Empty(t *testing.T) {
	d := emptyDisk(t)
	for life := uint64(1); life <= 3; life++ {
		v := started(t, conf(), 1, d)
		if v.Life() != life || v.Runs() || len(v.Taken()) != 0 || len(v.Pending()) != 0 || text(v.Base()) != text(book.First(conf())) || text(v.View()) != text(v.Base()) {
			t.Errorf("life %d: %+v, %+v", v.Life(), v.Taken(), v.Base())
		}
		if g := transactions(t, left(t, d)); len(g) != int(life) || text(g[life-1]) != text(parts(lifePart(life))) {
			t.Errorf("the journal has %v", g)
		}
	}
	if names, _ := d.List(); text(names) != "[till]" {
		t.Errorf("files: %v", names)
	}
}

// What was taken and issued is there; the lease does not run, and the server's life is not known.
func TestP16_1Anew(t *testing.T) {
	r := holding(t)
	r.issued(write(-1), api.Sure, 2, true)
	r.issued(ask(down(1)), api.Best, 3, false)
	taken, pending, view := r.v.Taken(), r.v.Pending(), r.v.View()
	r.life = 7
	r.restart()
	if r.v.Life() != 2 || r.v.Runs() || text(r.v.View()) != text(view) {
		t.Errorf("life %d, %+v", r.v.Life(), r.v.View())
	}
	r.has(taken, pending)
	r.ticks("word/0")
	r.word()
	r.ticks("1/0:hello 1 2/0:act 2 3/0:act 3")
	r.entry(r.next())
	r.has(append(taken, r.v.Taken()[1]), pending[1:])
}

// The window and the cap are the configuration's.
func TestP16_1Link(t *testing.T) {
	for _, x := range []struct {
		window, most int
		want         []string
	}{
		{1, 1, []string{"1/0:hello 0", "1/0:hello 0", "1/0:hello 0", "1/0:hello 0"}},
		{2, 2, []string{"1/0:hello 0 2/0:act 1", "1/0:hello 0 2/0:act 1", "", "1/0:hello 0 2/0:act 1", "", "1/0:hello 0 2/0:act 1"}},
		{3, 8, []string{"1/0:hello 0 2/0:act 1 3/0:act 2", "1/0:hello 0 2/0:act 1 3/0:act 2", "", "1/0:hello 0 2/0:act 1 3/0:act 2", "", "", "", "1/0:hello 0 2/0:act 1 3/0:act 2"}},
	} {
		c := conf()
		c.Window, c.Cap = x.window, x.most
		r := newRig(t, c, 0, emptyDisk(t))
		for number := uint64(1); number <= 3; number++ {
			r.issued(ask(down(1)), api.Loose, number, false)
		}
		r.word()
		for _, want := range x.want {
			r.ticks(want)
		}
	}
}

func configsThatMayNotBe() []api.Config {
	var out []api.Config
	for _, change := range []func(*api.Config){
		func(c *api.Config) { *c = api.Config{} },
		func(c *api.Config) { c.Tills = 0 },
		func(c *api.Config) { c.Tills = api.MaxTills + 1 },
		func(c *api.Config) { c.Counters = nil },
		func(c *api.Config) { c.Counters[0].Start = 11 },
		func(c *api.Config) { c.Prices[0].Start = -1 },
		func(c *api.Config) { c.Watch = 11 },
		func(c *api.Config) { c.Window = 0 },
		func(c *api.Config) { c.Cap = api.MaxCap + 1 },
		func(c *api.Config) { c.Flight = -1 },
	} {
		c := conf()
		change(&c)
		out = append(out, c)
	}
	return out
}

func TestP16_1Refused(t *testing.T) {
	damaged := written(t, parts(lifePart(1)), parts(lifePart(2))).Crash(nil)
	damaged[0].Data[3] ^= 1
	off := written(t, parts(lifePart(1)))
	off.Plan(api.Plan{Off: 1})
	off.SyncNames()
	load := func(img []api.FileBytes) *disk.Disk {
		d, _ := disk.Load(img, room)
		return d
	}
	wrong := written(t, parts([]byte("wrong")))
	disks := []*disk.Disk{emptyDisk(t), load(damaged), off, wrong, nil}
	for _, c := range configsThatMayNotBe() {
		for _, d := range disks {
			refused(t, c, 0, d, api.ErrActConfig)
		}
	}
	for _, till := range []int{-1 << 63, -1, 2, 3, api.MaxTills, 1<<63 - 1} {
		for _, d := range disks {
			refused(t, conf(), till, d, api.ErrActConfig)
		}
	}
	for till := range 2 {
		refused(t, conf(), till, load(damaged), api.ErrJournalDamage)
		refused(t, conf(), till, off, api.ErrDiskOff)
		refused(t, conf(), till, wrong, api.ErrDeviceDisk)
	}
}

// story is what till 0 can have kept, step by step: what each step's transaction has, and what is behind it.
type story struct {
	t            *testing.T
	c            api.Config
	draft        *draft.Draft
	taken        []api.Entry
	transactions [][][]byte
}

func newStory(t *testing.T) *story {
	return &story{t: t, c: conf(), draft: draft.New(conf(), 0), transactions: [][][]byte{parts(lifePart(1))}}
}

func (s *story) add(p ...[]byte) { s.transactions = append(s.transactions, p) }

func (s *story) issue(a api.Act, takes int) {
	s.t.Helper()
	if _, _, errno := s.draft.Issue(a, takes, true); errno != api.OK {
		s.t.Fatalf("Issue(%+v): %d", a, errno)
	}
	pending := s.draft.Pending()
	s.add(actPart(s.t, s.c, pending[len(pending)-1]))
}

func (s *story) take(e api.Entry) {
	s.t.Helper()
	a, brings, errno := s.draft.Take(e)
	if errno != api.OK {
		s.t.Fatalf("Take(%+v): %d", e, errno)
	}
	s.taken = append(s.taken, e)
	if brings {
		s.add(entryPart(s.t, s.c, e), actPart(s.t, s.c, a))
	} else {
		s.add(entryPart(s.t, s.c, e))
	}
}

func (s *story) next() api.Entry {
	return book.Next(s.c, s.draft.Base(), s.draft.Pending()[0])
}

func (s *story) fence(till int) api.Entry {
	e, _ := book.Fence(s.c, s.draft.Base(), till)
	return e
}

// told is the story that most tests begin with: a life, an ask, its grant, a sure write, a fence with a yield of the rest, an ask, a fence of the other till.
func told(t *testing.T) *story {
	s := newStory(t)
	s.issue(ask(down(3)), api.Loose)
	s.take(s.next())
	s.issue(write(-1), api.Sure)
	s.take(s.fence(0))
	s.add(lifePart(5))
	s.issue(ask(up(1)), api.Loose)
	s.take(s.fence(1))
	return s
}

// state is what a checkpoint of it has.
func (s *story) state(life uint64) [][]byte {
	all := parts(lifePart(life))
	for _, e := range s.taken {
		all = append(all, entryPart(s.t, s.c, e))
	}
	for _, a := range s.draft.Pending() {
		all = append(all, actPart(s.t, s.c, a))
	}
	return all
}

// found: a Start finds that life, and what the story has; and it is kept with the next life behind what there was.
func (s *story) found(life uint64, journal ...[][]byte) {
	s.t.Helper()
	d := written(s.t, journal...)
	before, strokes := seen(d), d.Strokes()
	taken, pending, last, ok := device.Kept(s.c, 0, d)
	if !ok || last != life || text(taken) != text(s.taken) || text(pending) != text(s.draft.Pending()) {
		s.t.Errorf("Kept: %+v, %+v, %d, %v", taken, pending, last, ok)
	}
	if seen(d) != before || d.Strokes() != strokes {
		s.t.Error("Kept has changed the disk")
	}
	r := &rig{t: s.t, c: s.c, d: d, v: started(s.t, s.c, 0, d)}
	if r.v.Life() != life+1 || r.v.Runs() {
		s.t.Errorf("life %d, %v", r.v.Life(), r.v.Runs())
	}
	r.has(s.taken, s.draft.Pending())
	if g := transactions(s.t, left(s.t, d)); text(g) != text(append(journal, parts(lifePart(life+1)))) {
		s.t.Errorf("the journal has %v", g)
	}
}

func TestP16_1MayBe(t *testing.T) {
	empty := newStory(t)
	empty.found(0)
	empty.found(1, parts(lifePart(1)))
	empty.found(7, parts(lifePart(7)))
	empty.found(9, parts(lifePart(1)), parts(lifePart(2)), parts(lifePart(9)))
	empty.found(api.MaxNumber-2, parts(lifePart(api.MaxNumber-2)))

	s := newStory(t)
	check := func(life uint64) {
		t.Helper()
		s.found(life, s.transactions...)
		s.found(life+3, s.state(life+3)) // and from there on as a checkpoint
		s.found(life+4, s.state(life+3), parts(lifePart(life+4)))
	}
	check(1)
	s.issue(ask(down(3)), api.Loose)
	check(1)
	s.take(s.next())
	check(1)
	s.issue(write(-1), api.Sure)
	check(1)
	s.take(s.fence(0))
	check(1)
	s.add(lifePart(5))
	check(5)
	s.issue(ask(up(1)), api.Loose)
	check(5)
	s.take(s.fence(1))
	check(5)
	checkpoint := s.state(6)
	s.transactions = [][][]byte{checkpoint}
	s.take(s.next())
	check(6)
	s.take(s.next()) // the yield
	check(6)
	s.take(s.fence(0)) // a yield of nothing
	check(6)
	s.take(s.next())
	s.take(s.next())
	if len(s.draft.Pending()) != 0 {
		t.Errorf("%+v", s.draft.Pending())
	}
	check(6)
}

func TestP16_1MayNotBe(t *testing.T) {
	c := conf()
	life := lifePart(1)
	base := told(t).transactions
	grant := base[2][0]
	fenceAndYield := base[4]
	askPart := actPart(t, c, as(0, 1, ask(down(3))))
	sell := actPart(t, c, as(0, 1, write(-1)))
	long := func(b []byte) []byte { return append(bytes.Clone(b), 0) }
	sold := entryPart(t, c, api.Entry{Position: 1, Act: as(1, 1, write(-1)), Outcome: api.Applied, Made: []api.Line{{Change: -1}}})
	fence1 := entryPart(t, c, fenceEntry(1, 1, 1))
	fence0 := entryPart(t, c, fenceEntry(1, 0, 1))
	yield0 := actPart(t, c, as(0, 1, yield(1)))
	var tooMany, full [][]byte
	for number := uint64(1); number <= api.MaxPending+1; number++ {
		full = tooMany
		tooMany = append(tooMany, actPart(t, c, as(0, number, ask(down(1)))))
	}
	full = append(parts(life), full...)
	for i, x := range [][][][]byte{
		// parts that are none
		{parts(nil)},
		{parts([]byte{})},
		{parts([]byte{0})},
		{parts([]byte{1})},
		{parts([]byte{2})},
		{parts([]byte{3})},
		{parts([]byte{4, 0, 0, 0, 0, 0, 0, 0, 1})},
		{parts(life[:8])},
		{parts(long(life))},
		{parts(life, nil)},
		{parts(life, []byte{2})},
		{parts(life, []byte{3})},
		{parts(life, []byte{4})},
		{parts(life, long(askPart))},
		{parts(life, askPart[:len(askPart)-1])},
		{parts(life, askPart[1:])},
		{parts(life, long(sold))},
		{parts(life, sold[:len(sold)-1])},
		{parts(life), parts(long(askPart))},
		{parts(life), parts(long(sold))},
		{parts(life), parts([]byte{5})},
		{parts(life), parts(lifePart(2)[:8])},
		{parts(life, append([]byte{2}, sold[1:]...))},
		{parts(life, append([]byte{3}, askPart[1:]...))},
		// first transactions that are no state
		{nil},
		{nil, parts(life)},
		{parts(askPart)},
		{parts(sold)},
		{parts(sold, life)},
		{parts(askPart, life)},
		{parts(life, life)},
		{parts(life, lifePart(2))},
		{parts(life, sold, lifePart(2))},
		{parts(life, askPart, lifePart(2))},
		{parts(life, askPart, sold)},
		{parts(life, askPart, grant)},
		// later ones that are none
		{parts(life), nil},
		{parts(life), parts(nil)},
		{parts(life), parts(lifePart(2), lifePart(3))},
		{parts(life), parts(lifePart(2), sold)},
		{parts(life), parts(lifePart(2), askPart)},
		{parts(life), parts(askPart, actPart(t, c, as(0, 2, ask(down(1)))))},
		{parts(life), parts(askPart, grant)},
		{parts(life), parts(askPart, lifePart(2))},
		{parts(life), parts(sold, lifePart(2))},
		{parts(life), parts(sold, askPart)},
		{parts(life), parts(sold, entryPart(t, c, fenceEntry(2, 1, 1)))},
		// lives
		{parts(lifePart(0))},
		{parts(lifePart(api.MaxNumber))},
		{parts(lifePart(api.MaxNumber + 1))},
		{parts(lifePart(1 << 63))},
		{parts(lifePart(api.MaxNumber - 1)), parts(lifePart(api.MaxNumber))},
		{parts(life), parts(life)},
		{parts(lifePart(2)), parts(life)},
		{parts(life), parts(lifePart(0))},
		{parts(life), parts(lifePart(3)), parts(lifePart(2))},
		{parts(life), parts(lifePart(api.MaxNumber + 1))},
		// acts that are refused
		{parts(life, actPart(t, c, as(0, 2, ask(down(1)))))},
		{parts(life, actPart(t, c, as(1, 1, ask(down(1)))))},
		{parts(life, actPart(t, c, as(0, 1, sure(write(-1)))))},
		{parts(life, actPart(t, c, as(0, 1, give(down(1)))))},
		{parts(life, yield0)},
		{parts(life, askPart, askPart)},
		{append(parts(life), tooMany...)},
		{parts(life), parts(actPart(t, c, as(0, 2, ask(down(1)))))},
		{parts(life), parts(actPart(t, c, as(1, 1, ask(down(1)))))},
		{parts(life), parts(actPart(t, c, as(0, 1, sure(write(-1)))))},
		{parts(life), parts(actPart(t, c, as(0, 1, pass(1, down(1)))))},
		{parts(life), parts(yield0)},
		{parts(life), parts(askPart), parts(askPart)},
		{full, parts(tooMany[api.MaxPending])},
		{parts(life), parts(fence0, yield0), parts(actPart(t, c, as(0, 2, yield(1))))},
		// entries that are refused
		{parts(life, entryPart(t, c, fenceEntry(2, 1, 1)))},
		{parts(life, entryPart(t, c, fenceEntry(1, 1, 2)))},
		{parts(life, fence1, fence1)},
		{parts(life), parts(entryPart(t, c, fenceEntry(2, 1, 1)))},
		{parts(life), parts(entryPart(t, c, fenceEntry(1, 1, 2)))},
		{parts(life), parts(fence1), parts(fence1)},
		{parts(life), parts(grant)}, // of an act that was never issued
		{parts(life), parts(sell), parts(grant)},
		{parts(life), parts(askPart), parts(grant), parts(grant)},
		{parts(life), parts(askPart), parts(entryPart(t, c, api.Entry{Position: 1, Act: as(0, 1, ask(down(3))), Outcome: api.Granted, N: 2}))},
		// yields
		{parts(life, fence0)},
		{parts(life, fence0, askPart)},
		{parts(life, fence0, actPart(t, c, as(0, 1, yield(2))))},
		{parts(life, fence0, actPart(t, c, as(0, 1, yield(1, down(1)))))},
		{parts(life, fence0, yield0, actPart(t, c, as(0, 2, yield(1))))},
		{parts(life, fence1, yield0)},
		{parts(life), parts(fence0)},
		{parts(life), parts(fence0), parts(yield0)},
		{parts(life), parts(yield0, fence0)},
		{parts(life), parts(fence0, askPart)},
		{parts(life), parts(fence0, actPart(t, c, as(0, 2, yield(1))))},
		{parts(life), parts(fence0, actPart(t, c, as(0, 1, yield(2))))},
		{parts(life), parts(fence0, actPart(t, c, as(1, 1, yield(1))))},
		{parts(life), parts(fence0, actPart(t, c, as(0, 1, yield(1, down(1)))))},
		{parts(life), parts(fence0, yield0, yield0)},
		{parts(life), parts(fence0, yield0, askPart)},
		{parts(life), parts(fence1, yield0)},
		{parts(life), parts(sold, yield0)},
		{base[0], base[1], base[2], base[3], parts(fenceAndYield[0])},
		{base[0], base[1], base[2], base[3], parts(fenceAndYield[0], actPart(t, c, as(0, 3, yield(1, down(1)))))}, // not all that is available
		{base[0], base[1], base[2], base[3], parts(fenceAndYield[0], actPart(t, c, as(0, 3, yield(1, down(3)))))}, // more than that
	} {
		refused(t, c, 0, written(t, x...), api.ErrDeviceDisk)
		if t.Failed() {
			t.Fatalf("row %d: %x", i, x)
		}
	}
}

// What another till has kept, or one of another configuration, may not be; nor may a story of which a part is missing.
func TestP16_1OtherTill(t *testing.T) {
	s := told(t)
	refused(t, s.c, 1, written(t, s.transactions...), api.ErrDeviceDisk)
	refused(t, s.c, 1, written(t, s.state(5)), api.ErrDeviceDisk)
	c := conf()
	c.Tills = 1 // there is no till 1 to be fenced
	refused(t, c, 0, written(t, s.transactions...), api.ErrDeviceDisk)
	c = conf()
	c.Counters[0].Start = 2 // 3 were granted
	refused(t, c, 0, written(t, s.transactions...), api.ErrDeviceDisk)
	for i := range 5 { // each but the lives and the last ones is missed
		without := append(append([][][]byte{}, s.transactions[:i]...), s.transactions[i+1:]...)
		refused(t, s.c, 0, written(t, without...), api.ErrDeviceDisk)
	}
}

// The last life that there is may be lived; behind it there is none.
func TestP16_1LastLife(t *testing.T) {
	d := written(t, parts(lifePart(api.MaxNumber-1)))
	v := started(t, conf(), 0, d)
	if v.Life() != api.MaxNumber {
		t.Errorf("life %d", v.Life())
	}
	if out, errno := v.Tick(); errno != api.OK || len(out) != 1 {
		t.Errorf("Tick: %v, %d", out, errno)
	}
	refused(t, conf(), 0, d, api.ErrDeviceDisk)
	refused(t, conf(), 0, written(t, told(t).state(api.MaxNumber)), api.ErrDeviceDisk)
}

func TestP16_1Room(t *testing.T) {
	for _, x := range []struct {
		plan api.Plan
		want api.Errno
	}{
		{api.Plan{Off: 1}, api.ErrDiskOff},
		{api.Plan{Off: 2}, api.ErrDiskOff},
		{api.Plan{Off: 3}, api.ErrDiskOff},
		{api.Plan{FullFrom: 1, FullTo: 1}, api.ErrDiskFull},
	} {
		d := emptyDisk(t)
		d.Plan(x.plan)
		if v, errno := device.Start(conf(), 0, d); v != nil || errno != x.want {
			t.Errorf("%+v: Start: %v, %d, want %d", x.plan, v, errno, x.want)
		}
		for _, picks := range [][]int{nil, {-1, -1}, {1, 7}} {
			d := left(t, d, picks...)
			_, _, life, ok := device.Kept(conf(), 0, d)
			if v := started(t, conf(), 0, d); !ok || life > 1 || v.Life() != life+1 {
				t.Errorf("%+v, %v: life %d behind %d", x.plan, picks, v.Life(), life)
			}
		}
	}
	d, _ := disk.New(34)
	if v, errno := device.Start(conf(), 0, d); v != nil || errno != api.ErrDiskFull {
		t.Errorf("34 bytes: Start: %v, %d", v, errno)
	}
	d, _ = disk.New(35)
	started(t, conf(), 0, d)
	if v, errno := device.Start(conf(), 0, nil); v != nil || errno == api.OK {
		t.Errorf("no disk: Start: %v, %d", v, errno)
	}
}

// The numbers of a journal's transactions end, too.
func TestP16_1JournalsEnd(t *testing.T) {
	d := numbered(t, api.MaxNumber, lifePart(7))
	before := seen(d)
	if v, errno := device.Start(conf(), 0, d); v != nil || errno != api.ErrJournalLong {
		t.Errorf("Start: %v, %d", v, errno)
	}
	if l, acts, life, ok := device.Kept(conf(), 0, d); !ok || life != 7 || len(l) != 0 || len(acts) != 0 {
		t.Errorf("Kept: %v, %v, %d, %v", l, acts, life, ok)
	}
	if g := seen(d); g != before {
		t.Errorf("the disk has %s", g)
	}
	r := newRig(t, conf(), 0, numbered(t, api.MaxNumber-1, lifePart(7)))
	if told, errno := r.v.Issue(ask(down(1)), api.Loose); errno != api.ErrDeviceDown || told != (api.Told{}) {
		t.Errorf("Issue: %+v, %d", told, errno)
	}
	r.isDown()
	if r.v.Life() != 8 || len(r.v.Pending()) != 0 {
		t.Errorf("life %d, %v", r.v.Life(), r.v.Pending())
	}
}

// A torn end is cut off ahead of the life.
func TestP16_1Torn(t *testing.T) {
	s := told(t)
	all := append(s.transactions, parts(lifePart(9)))
	img := written(t, all...).Crash(nil)
	img[0].Data = img[0].Data[:len(img[0].Data)-1]
	d, _ := disk.Load(img, room)
	if _, _, life, ok := device.Kept(s.c, 0, d); !ok || life != 5 {
		t.Errorf("Kept: %d, %v", life, ok)
	}
	if v := started(t, s.c, 0, d); v.Life() != 6 || text(v.Pending()) != text(s.draft.Pending()) {
		t.Errorf("life %d", v.Life())
	}
	if g := transactions(t, left(t, d)); text(g) != text(append(s.transactions, parts(lifePart(6)))) {
		t.Errorf("the journal has %v", g)
	}
}

// lived is a story with so many transactions, the last ones lives.
func lived(t *testing.T, length int) (*story, uint64) {
	t.Helper()
	s := told(t)
	life := uint64(5)
	for len(s.transactions) < length {
		life++
		s.add(lifePart(life))
	}
	return s, life
}

// A journal of MaxRecords transactions is written anew by the next one, with the state that is then: behind a life, an act, an entry, a fence with its yield.
func TestP16_1Checkpoint(t *testing.T) {
	for _, length := range []int{api.MaxRecords - 2, api.MaxRecords - 1, api.MaxRecords, api.MaxRecords + 1, 2 * api.MaxRecords} {
		s, life := lived(t, length)
		d := written(t, s.transactions...)
		r := &rig{t: t, c: s.c, d: d, v: started(t, s.c, 0, d), life: 1}
		if s.add(lifePart(life + 1)); length >= api.MaxRecords {
			s.transactions = [][][]byte{s.state(life + 1)}
		}
		check := func() {
			t.Helper()
			if g := transactions(t, left(t, d)); text(g) != text(s.transactions) {
				t.Fatalf("%d: the journal has %d transactions: %v\nwant %v", length, len(g), g[len(g)-1], s.transactions[len(s.transactions)-1])
			}
			r.has(s.taken, s.draft.Pending())
			if names, _ := r.d.List(); text(names) != "[till]" {
				t.Errorf("files: %v", names)
			}
		}
		anew := func() {
			if len(s.transactions) > api.MaxRecords {
				s.transactions = [][][]byte{s.state(life + 1)}
			}
		}
		check()
		r.issued(ask(down(1)), api.Loose, 5, false)
		s.issue(ask(down(1)), api.Loose)
		anew()
		check()
		for range 3 { // the sure write, the yield, an ask
			e := s.next()
			r.entry(e)
			s.take(e)
			anew()
			check()
		}
		e := s.fence(0)
		r.entry(e)
		s.take(e)
		anew()
		check()
	}
}

// Each kind of transaction may be the one that is a checkpoint.
func TestP16_1CheckpointOfEach(t *testing.T) {
	for _, x := range []struct {
		name string
		step func(r *rig, s *story)
	}{
		{"an act", func(r *rig, s *story) {
			r.issued(ask(down(1)), api.Loose, 5, false)
			s.issue(ask(down(1)), api.Loose)
		}},
		{"an own entry", func(r *rig, s *story) {
			e := s.next()
			r.entry(e)
			s.take(e)
		}},
		{"another till's entry", func(r *rig, s *story) {
			e := r.other(1, ask(up(1)))
			r.entry(e)
			s.take(e)
		}},
		{"a fence", func(r *rig, s *story) {
			for range 2 { // the yield that is owed comes first
				e := s.next()
				r.entry(e)
				s.take(e)
			}
			e := s.fence(0)
			r.entry(e)
			s.take(e)
		}},
	} {
		length := api.MaxRecords - 1
		if x.name == "a fence" {
			length -= 2
		}
		s, life := lived(t, length)
		d := written(t, s.transactions...)
		r := &rig{t: t, c: s.c, d: d, v: started(t, s.c, 0, d), life: 1}
		x.step(r, s)
		if g := transactions(t, left(t, d)); text(g) != text([][][]byte{s.state(life + 1)}) {
			t.Errorf("%s: the journal has %v", x.name, g)
		}
		r.has(s.taken, s.draft.Pending())
	}
}

func TestP16_7Kept(t *testing.T) {
	r := holding(t)
	check := func() {
		t.Helper()
		before, strokes := seen(r.d), r.d.Strokes()
		for range 2 {
			taken, pending, life, ok := device.Kept(r.c, 0, r.d)
			if !ok || life != r.v.Life() || text(taken) != text(r.v.Taken()) || text(pending) != text(r.v.Pending()) {
				t.Errorf("Kept: %+v, %+v, %d, %v", taken, pending, life, ok)
			}
			d, errno := draft.Load(r.c, 0, taken, pending)
			if errno != api.OK || text(d.Base()) != text(r.v.Base()) || text(d.View()) != text(r.v.View()) {
				t.Errorf("Load: %d", errno)
			}
		}
		if seen(r.d) != before || r.d.Strokes() != strokes {
			t.Error("Kept has changed the disk")
		}
	}
	check()
	r.issued(write(-1), api.Sure, 2, true)
	check()
	r.entry(r.fence(0))
	check()
	r.entry(r.next())
	check()
	if taken, pending, life, ok := device.Kept(r.c, 1, emptyDisk(t)); !ok || life != 0 || len(taken) != 0 || len(pending) != 0 {
		t.Errorf("of an empty disk: %d, %v", life, ok)
	}
	if taken, pending, life, ok := device.Kept(r.c, 0, nil); !ok || life != 0 || len(taken) != 0 || len(pending) != 0 {
		t.Errorf("of no disk: %d, %v", life, ok)
	}
	r.d.Plan(api.Plan{Off: 1})
	r.d.SyncNames()
	refused(t, r.c, 0, r.d, api.ErrDiskOff)
}

// A bit of any safe record that is another one is told.
func TestP16_7Damage(t *testing.T) {
	s := told(t)
	img := written(t, s.transactions...).Crash(nil)
	for i := range img[0].Data {
		img[0].Data[i] ^= byte(1 << (i % 8))
		d, _ := disk.Load(img, room)
		refused(t, s.c, 0, d, api.ErrJournalDamage)
		img[0].Data[i] ^= byte(1 << (i % 8))
	}
}

// The longest log that there is, of the longest entries, and all acts that may be pending, on a disk of a node: nothing is refused.
func TestP16_8Sizes(t *testing.T) {
	c := api.Config{Tills: api.MaxTills, Lease: 1, Watch: api.MaxTicks, Beat: 1, Window: api.MaxWindow, Cap: 1, Flight: 1}
	var rights []api.Right
	for i := range api.MaxCounters {
		c.Counters = append(c.Counters, api.Counter{Name: string(rune('a'+i%26)) + string(rune('a'+i/26)), Lo: -api.MaxBound, Hi: api.MaxBound})
		rights = append(rights, api.Right{Counter: i, Way: api.Down, N: api.MaxHeld}, api.Right{Counter: i, Way: api.Up, N: api.MaxHeld})
	}
	d, _ := disk.New(api.NodeRoom)
	for range 192 { // so many that the last transaction below is a checkpoint
		started(t, c, 7, d)
	}
	r := newRig(t, c, 7, d)
	long := api.Act{Kind: api.ActWrite}
	for range api.MaxLines {
		long.Lines = append(long.Lines, api.Line{Counter: 63, Change: -api.MaxAmount})
		long.Merge.Other = append(long.Merge.Other, api.Line{Counter: 63, Change: -api.MaxAmount})
	}
	for range api.MaxGuards {
		long.Guards = append(long.Guards, api.Guard{Kind: api.GuardMost, What: 63, N: -api.MaxBound})
	}
	long.Merge.Kind = api.MergeOther
	for number := uint64(1); number <= api.MaxPending; number++ {
		r.issued(long, api.Loose, number, false)
	}
	for position := uint64(1); position < api.MaxLog; position++ {
		r.entry(api.Entry{Position: position, Act: as(6, position, yield(api.MaxNumber, rights...)), Outcome: api.Rejected})
	}
	if g := len(transactions(t, d)); g != api.MaxRecords {
		t.Errorf("%d transactions", g)
	}
	r.entry(fenceEntry(api.MaxLog, 7, 1))
	r.entry(fenceEntry(api.MaxLog, 6, 1)) // the log is at its end
	if len(r.v.Taken()) != api.MaxLog || len(r.v.Pending()) != api.MaxPending+1 {
		t.Fatalf("%d entries, %d acts", len(r.v.Taken()), len(r.v.Pending()))
	}
	if g := transactions(t, d); len(g) != 1 || len(g[0]) != 1+api.MaxLog+api.MaxPending+1 {
		t.Errorf("%d transactions", len(g))
	}
	v := started(t, c, 7, left(t, d))
	if text(v.Taken()) != text(r.v.Taken()) || text(v.Pending()) != text(r.v.Pending()) || v.Life() != r.v.Life()+1 {
		t.Errorf("life %d, %d entries, %d acts", v.Life(), len(v.Taken()), len(v.Pending()))
	}
}

// All that a till may say goes out: nothing is too long for its link.
func TestP16_8LongestBodies(t *testing.T) {
	c := api.Config{Tills: 1, Lease: 9, Watch: 99, Beat: 9, Window: 4, Cap: 4, Flight: 1}
	for i := range api.MaxCounters {
		c.Counters = append(c.Counters, api.Counter{Name: string(rune('a'+i%26)) + string(rune('a'+i/26)), Lo: -api.MaxBound, Hi: api.MaxBound})
	}
	r := newRig(t, c, 0, emptyDisk(t))
	r.word()
	r.ticks("1/0:hello 0")
	number := uint64(0)
	for i := range api.MaxCounters {
		for way := range 2 {
			number++
			r.issued(ask(api.Right{Counter: i, Way: way, N: api.MaxAmount}), api.Loose, number, false)
			r.entry(r.next())
		}
	}
	r.flush()
	r.entry(r.fence(0))
	back := r.v.Pending()[0]
	if b, errno := act.Encode(c, back); errno != api.OK || len(b) < 1000 || len(back.Rights) != 2*api.MaxCounters {
		t.Fatalf("the yield has %d bytes, %d", len(b), errno)
	}
	r.ticks("130/129:act 129")
}
