package server_test

import (
	"bytes"
	"testing"

	"till/act"
	"till/api"
	"till/book"
	"till/code"
	"till/disk"
	"till/journal"
	"till/server"
)

// written is a disk with a journal of these transactions.
func written(t *testing.T, transactions ...[][]byte) *disk.Disk {
	t.Helper()
	d, _ := disk.New(api.MaxRoom)
	j, errno := journal.Open(d, "server")
	if errno != api.OK {
		t.Fatal(errno)
	}
	for _, parts := range transactions {
		if errno := j.Add(parts); errno != api.OK {
			t.Fatal(errno)
		}
	}
	return d
}

func parts(p ...[]byte) [][]byte { return p }

// numbered is a disk whose journal has one transaction with that number.
func numbered(t *testing.T, number uint64, parts ...[]byte) *disk.Disk {
	t.Helper()
	body := code.New()
	body.U64(number)
	body.U32(uint32(len(parts)))
	for _, p := range parts {
		body.Bytes(p)
	}
	head := code.New()
	head.U8(0xa7)
	head.U32(uint32(body.Len()))
	head.U32(code.Sum(head.Out()))
	head.Raw(body.Out())
	head.U32(code.Sum(body.Out()))
	d, errno := disk.Load([]api.FileBytes{{Name: "server", Data: head.Out()}}, room)
	if errno != api.OK {
		t.Fatal(errno)
	}
	return d
}

// row is so many entries of asks for nothing that is free, all of till 0, behind some others.
func row(t *testing.T, c api.Config, n int, first ...api.Entry) []api.Entry {
	t.Helper()
	s := folded(t, c, first)
	for len(first) < n {
		e := book.Next(c, s, ask(0, s.Last[0]+1, 1))
		next, errno := book.Fold(c, s, e)
		if errno != api.OK {
			t.Fatal(errno)
		}
		first, s = append(first, e), next
	}
	return first
}

func entryParts(t *testing.T, c api.Config, entries []api.Entry) [][]byte {
	t.Helper()
	var out [][]byte
	for _, e := range entries {
		out = append(out, entryPart(t, c, e))
	}
	return out
}

func TestP15_1Empty(t *testing.T) {
	d := emptyDisk(t)
	for life := uint64(1); life <= 3; life++ {
		s := started(t, conf(), d)
		if s.Life() != life || len(s.Log()) != 0 || text(s.State()) != text(book.First(conf())) {
			t.Errorf("life %d: %+v, %+v", s.Life(), s.Log(), s.State())
		}
		if g := transactions(t, left(t, d)); len(g) != int(life) || text(g[life-1]) != text(parts(lifePart(life))) {
			t.Errorf("the journal has %v", g)
		}
	}
	names, _ := d.List()
	if text(names) != "[server]" {
		t.Errorf("files: %v", names)
	}
}

// What the journal says is the log; streams are closed, and no till has been watched.
func TestP15_1Anew(t *testing.T) {
	r := newRig(t, conf(), emptyDisk(t))
	r.hello(0, 0)
	r.act(ask(0, 1, 3))
	r.tick(5)
	r.restart()
	if r.s.Life() != 2 {
		t.Errorf("life %d", r.s.Life())
	}
	r.has(granted(1, ask(0, 1, 3), 3))
	r.ticks("0:word/0 1:word/0")
	r.tick(4)
	r.length(1)
	r.tick(1)
	r.length(2)
	r.act(ask(0, 2, 1))
	r.ticks0("0:word/1")
	r.hello(0, 3)
	r.act(ask(0, 3, 1))
	r.ticks0("0:1/3@4")
}

func configsThatMayNotBe() []api.Config {
	var out []api.Config
	for _, change := range []func(*api.Config){
		func(c *api.Config) { *c = api.Config{} },
		func(c *api.Config) { c.Tills = 0 },
		func(c *api.Config) { c.Tills = api.MaxTills + 1 },
		func(c *api.Config) { c.Counters = nil },
		func(c *api.Config) { c.Counters[0].Start = 10 },
		func(c *api.Config) { c.Watch = 5 },
		func(c *api.Config) { c.Window = 0 },
		func(c *api.Config) { c.Cap = api.MaxCap + 1 },
		func(c *api.Config) { c.Flight = -1 },
	} {
		c := conf()
		change(&c)
		out = append(out, c)
	}
	return out
}

func TestP15_1Refused(t *testing.T) {
	damaged := written(t, parts(lifePart(1)), parts(lifePart(2))).Crash(nil)
	damaged[0].Data[3] ^= 1
	off := written(t, parts(lifePart(1)))
	off.Plan(api.Plan{Off: 1})
	off.SyncNames()
	load := func(img []api.FileBytes) *disk.Disk {
		d, _ := disk.Load(img, room)
		return d
	}
	wrong := written(t, parts([]byte("wrong")))
	for _, c := range configsThatMayNotBe() {
		for _, d := range []*disk.Disk{emptyDisk(t), load(damaged), off, wrong, nil} {
			refused(t, c, d, api.ErrActConfig)
		}
	}
	refused(t, conf(), load(damaged), api.ErrJournalDamage)
	refused(t, conf(), off, api.ErrDiskOff)
	refused(t, conf(), wrong, api.ErrServerDisk)
}

// refused: Start answers that error and Kept nothing, and the disk is as it was.
func refused(t *testing.T, c api.Config, d *disk.Disk, want api.Errno) {
	t.Helper()
	before, strokes := seen(d)
	if s, errno := server.Start(c, d); s != nil || errno != want {
		t.Errorf("Start: %v, %d, want %d", s, errno, want)
	}
	if l, life, ok := server.Kept(c, d); len(l) != 0 || life != 0 || ok {
		t.Errorf("Kept: %v, %d, %v", l, life, ok)
	}
	if g, n := seen(d); g != before || n != strokes {
		t.Errorf("the disk has changed: %s, %d strokes", g, n)
	}
}

func seen(d *disk.Disk) (string, int) {
	if d == nil {
		return "", 0
	}
	return text(d.Crash([]int{-1, -1, -1})), d.Strokes()
}

func TestP15_1MayNotBe(t *testing.T) {
	c := conf()
	first := granted(1, ask(0, 1, 3), 3)
	second := fence(2, 0, 1)
	one, two := entryPart(t, c, first), entryPart(t, c, second)
	life := lifePart(1)
	for i, x := range [][][][]byte{
		{parts(nil)},
		{parts([]byte{})},
		{parts([]byte{0})},
		{parts([]byte{1})},
		{parts([]byte{2})},
		{parts([]byte{3})},
		{parts([]byte{3, 0, 0, 0, 0, 0, 0, 0, 1})},
		{parts(life[:8])},
		{parts(append(bytes.Clone(life), 0))},
		{parts(lifePart(0))},
		{parts(life, lifePart(0))},
		{parts(life, life)},
		{parts(life), parts(life)},
		{parts(lifePart(2)), parts(life)},
		{parts(life, one, life)},
		{parts(lifePart(api.MaxNumber))},
		{parts(lifePart(api.MaxNumber + 1))},
		{parts(lifePart(1 << 63))},
		{parts(lifePart(api.MaxNumber - 1)), parts(lifePart(api.MaxNumber))},
		{parts(life, one[:len(one)-1])},
		{parts(life, append(bytes.Clone(one), 0))},
		{parts(life, one[1:])},
		{parts(life, two)}, // it is not the first
		{parts(life, one, one)},
		{parts(life, one), parts(one)},
		{parts(life, one, entryPart(t, c, granted(2, ask(0, 1, 3), 2)))}, // act 1 again
		{parts(life, one, entryPart(t, c, granted(2, ask(0, 3, 1), 1)))}, // act 2 is missing
		{parts(life, entryPart(t, c, granted(1, ask(0, 1, 3), 2)))},      // not the rules' outcome
		{parts(life, one, entryPart(t, c, fence(2, 0, 2)))},
		{parts(life, one, append([]byte{2}, 2, 0, 2, 1))}, // a fence of till 2
		{parts(life, one), parts(two, nil)},
	} {
		refused(t, c, written(t, x...), api.ErrServerDisk)
		if t.Failed() {
			t.Fatalf("row %d: %x", i, x)
		}
	}
}

func TestP15_1MayBe(t *testing.T) {
	c := conf()
	first, second := granted(1, ask(0, 1, 3), 3), fence(2, 0, 1)
	one, two := entryPart(t, c, first), entryPart(t, c, second)
	for i, x := range []struct {
		transactions [][][]byte
		life         uint64
		entries      []api.Entry
	}{
		{nil, 0, nil},
		{[][][]byte{nil}, 0, nil},
		{[][][]byte{nil, nil, parts(lifePart(4)), nil}, 4, nil},
		{[][][]byte{parts(lifePart(1), lifePart(2), lifePart(9))}, 9, nil},
		{[][][]byte{parts(lifePart(api.MaxNumber - 1))}, api.MaxNumber - 1, nil},
		{[][][]byte{parts(one)}, 0, []api.Entry{first}}, // no life, and yet an entry
		{[][][]byte{parts(one, lifePart(3), two)}, 3, []api.Entry{first, second}},
		{[][][]byte{parts(lifePart(1), one), parts(lifePart(5)), parts(two)}, 5, []api.Entry{first, second}},
	} {
		d := written(t, x.transactions...)
		before, strokes := seen(d)
		l, life, ok := server.Kept(c, d)
		if !ok || life != x.life || text(l) != text(x.entries) {
			t.Errorf("row %d: Kept: %+v, %d, %v", i, l, life, ok)
		}
		if g, n := seen(d); g != before || n != strokes {
			t.Errorf("row %d: Kept has changed the disk", i)
		}
		s := started(t, c, d)
		if s.Life() != x.life+1 || text(s.Log()) != text(x.entries) || text(s.State()) != text(folded(t, c, x.entries)) {
			t.Errorf("row %d: life %d, %+v", i, s.Life(), s.Log())
		}
		want := append(x.transactions, parts(lifePart(x.life+1)))
		if g := transactions(t, left(t, d)); text(g) != text(want) {
			t.Errorf("row %d: the journal has %v", i, g)
		}
	}
}

// The last life that there is may be lived; behind it there is none.
func TestP15_1LastLife(t *testing.T) {
	d := written(t, parts(lifePart(api.MaxNumber-1)))
	s := started(t, conf(), d)
	if s.Life() != api.MaxNumber {
		t.Errorf("life %d", s.Life())
	}
	if out, errno := s.Tick(); errno != api.OK || len(out) != 2 {
		t.Errorf("Tick: %v, %d", out, errno)
	}
	refused(t, conf(), d, api.ErrServerDisk)
}

// What the configuration of a log does not fit is refused with it.
func TestP15_1OtherConfig(t *testing.T) {
	r := newRig(t, conf(), emptyDisk(t))
	r.act(ask(1, 1, 3))
	c := conf()
	c.Tills = 1
	refused(t, c, left(t, r.d), api.ErrServerDisk)
	c = conf()
	c.Counters[0].Start = 2 // 3 were granted
	refused(t, c, left(t, r.d), api.ErrServerDisk)
}

func TestP15_1Room(t *testing.T) {
	for _, x := range []struct {
		plan api.Plan
		want api.Errno
	}{
		{api.Plan{Off: 1}, api.ErrDiskOff},
		{api.Plan{Off: 2}, api.ErrDiskOff},
		{api.Plan{Off: 3}, api.ErrDiskOff},
		{api.Plan{FullFrom: 1, FullTo: 1}, api.ErrDiskFull},
	} {
		d := emptyDisk(t)
		d.Plan(x.plan)
		if s, errno := server.Start(conf(), d); s != nil || errno != x.want {
			t.Errorf("%+v: Start: %v, %d, want %d", x.plan, s, errno, x.want)
		}
		for _, picks := range [][]int{nil, {-1, -1}, {1, 7}} {
			d := left(t, d, picks...)
			_, life, ok := server.Kept(conf(), d)
			if s := started(t, conf(), d); !ok || life > 1 || s.Life() != life+1 {
				t.Errorf("%+v, %v: life %d behind %d", x.plan, picks, s.Life(), life)
			}
		}
	}
	d, _ := disk.New(34)
	if s, errno := server.Start(conf(), d); s != nil || errno != api.ErrDiskFull {
		t.Errorf("34 bytes: Start: %v, %d", s, errno)
	}
	d, _ = disk.New(35)
	started(t, conf(), d)
	if s, errno := server.Start(conf(), nil); s != nil || errno == api.OK {
		t.Errorf("no disk: Start: %v, %d", s, errno)
	}
}

// The numbers of a journal's transactions end, too.
func TestP15_1JournalsEnd(t *testing.T) {
	d := numbered(t, api.MaxNumber, lifePart(7))
	before, _ := seen(d)
	if s, errno := server.Start(conf(), d); s != nil || errno != api.ErrJournalLong {
		t.Errorf("Start: %v, %d", s, errno)
	}
	if l, life, ok := server.Kept(conf(), d); !ok || life != 7 || len(l) != 0 {
		t.Errorf("Kept: %v, %d, %v", l, life, ok)
	}
	if g, _ := seen(d); g != before {
		t.Errorf("the disk has %s", g)
	}
	r := newRig(t, conf(), numbered(t, api.MaxNumber-1, lifePart(7)))
	r.bytes(0, r.made(act.Body{Kind: act.BodyAct, Act: ask(0, 1, 1)}), api.ErrServerDown)
	if r.s.Life() != 8 || len(r.s.Log()) != 0 {
		t.Errorf("life %d, %v", r.s.Life(), r.s.Log())
	}
}

// A torn end is cut off ahead of the life.
func TestP15_1Torn(t *testing.T) {
	img := written(t, parts(lifePart(1)), parts(lifePart(2))).Crash(nil)
	img[0].Data = img[0].Data[:len(img[0].Data)-1]
	d, _ := disk.Load(img, room)
	if _, life, ok := server.Kept(conf(), d); !ok || life != 1 {
		t.Errorf("Kept: %d, %v", life, ok)
	}
	if s := started(t, conf(), d); s.Life() != 2 {
		t.Errorf("life %d", s.Life())
	}
	if g := transactions(t, left(t, d)); text(g) != text([][][]byte{parts(lifePart(1)), parts(lifePart(2))}) {
		t.Errorf("the journal has %v", g)
	}
}

// A journal of MaxRecords transactions is written anew by the next record: the life, then all entries, the new one with them.
func TestP15_1Checkpoint(t *testing.T) {
	c := conf()
	r := newRig(t, c, emptyDisk(t))
	r.act(ask(0, 1, 3))
	r.act(ask(1, 1, 1))
	entries := r.s.Log()
	for len(transactions(t, r.d)) < api.MaxRecords {
		r.s = started(t, c, r.d)
	}
	life := r.s.Life()
	if life != api.MaxRecords-2 {
		t.Fatalf("life %d", life)
	}
	d := left(t, r.d)
	s := started(t, c, d)
	want := append(parts(lifePart(life+1)), entryParts(t, c, entries)...)
	if g := transactions(t, left(t, d)); text(g) != text([][][]byte{want}) || s.Life() != life+1 {
		t.Errorf("behind a start the journal has %v", g)
	}
	s = started(t, c, d)
	if g := transactions(t, left(t, d)); text(g) != text([][][]byte{want, parts(lifePart(life + 2))}) || s.Life() != life+2 {
		t.Errorf("behind another one it has %v", g)
	}

	r.tills = []peer{{life: 2}, {life: 2}}
	r.act(ask(0, 2, 1))
	want = append(parts(lifePart(life)), entryParts(t, c, append(entries, granted(3, ask(0, 2, 1), 1)))...)
	if g := transactions(t, left(t, r.d)); text(g) != text([][][]byte{want}) {
		t.Errorf("behind an act the journal has %v", g)
	}
	r.tick(6)
	r.length(5)
	more := [][][]byte{want, parts(entryPart(t, c, fence(4, 0, 1))), parts(entryPart(t, c, fence(5, 1, 1)))}
	if g := transactions(t, left(t, r.d)); text(g) != text(more) {
		t.Errorf("behind fences the journal has %v", g)
	}
	names, _ := r.d.List()
	if text(names) != "[server]" {
		t.Errorf("files: %v", names)
	}
}

// A journal by hand may have more than MaxRecords.
func TestP15_1LongJournal(t *testing.T) {
	var all [][][]byte
	for life := uint64(1); life <= 2*api.MaxRecords; life++ {
		all = append(all, parts(lifePart(life)))
	}
	for _, n := range []int{api.MaxRecords - 1, api.MaxRecords, api.MaxRecords + 1, 2 * api.MaxRecords} {
		d := written(t, all[:n]...)
		s := started(t, conf(), d)
		want := append(all[:n:n], parts(lifePart(uint64(n)+1)))
		if n >= api.MaxRecords {
			want = want[n:]
		}
		if g := transactions(t, left(t, d)); text(g) != text(want) || s.Life() != uint64(n)+1 {
			t.Errorf("%d: life %d, the journal has %d transactions", n, s.Life(), len(g))
		}
	}
}

// A log of MaxLog entries is the longest that there is; it is read, checkpointed and read again.
func TestP15_1LongLog(t *testing.T) {
	c := conf()
	entries := row(t, c, api.MaxLog)
	all := entryParts(t, c, entries)
	journalOf := [][][]byte{append(parts(lifePart(1)), all...)}
	for life := uint64(2); life <= api.MaxRecords; life++ {
		journalOf = append(journalOf, parts(lifePart(life)))
	}
	d := written(t, journalOf...)
	for life := uint64(api.MaxRecords + 1); life <= api.MaxRecords+2; life++ {
		if s := started(t, c, d); s.Life() != life || text(s.Log()) != text(entries) {
			t.Fatalf("life %d, %d entries", s.Life(), len(s.Log()))
		}
	}
	if g := transactions(t, left(t, d)); len(g) != 2 || len(g[0]) != api.MaxLog+1 {
		t.Errorf("the journal has %d transactions", len(g))
	}
	// An entry with the position MaxLog + 1 may not be by its bytes; the last one again is not the next.
	refused(t, c, written(t, append(parts(lifePart(1)), append(all, all[api.MaxLog-1])...)), api.ErrServerDisk)
}

func TestP15_5Kept(t *testing.T) {
	r := newRig(t, conf(), emptyDisk(t))
	var want []api.Entry
	for i := range uint64(6) {
		r.act(ask(int(i%2), i/2+1, 1))
		want = r.s.Log()
		before, strokes := seen(r.d)
		for range 2 {
			l, life, ok := server.Kept(r.c, r.d)
			if !ok || life != 1 || text(l) != text(want) {
				t.Errorf("Kept: %+v, %d, %v", l, life, ok)
			}
		}
		if g, n := seen(r.d); g != before || n != strokes {
			t.Errorf("Kept has changed the disk: %s, %d strokes", g, n)
		}
	}
	if _, life, ok := server.Kept(r.c, emptyDisk(t)); !ok || life != 0 {
		t.Errorf("of an empty disk: %d, %v", life, ok)
	}
	r.d.Plan(api.Plan{Off: 1})
	r.d.SyncNames()
	refused(t, r.c, r.d, api.ErrDiskOff)
	if l, life, ok := server.Kept(r.c, nil); !ok || len(l) != 0 || life != 0 {
		t.Errorf("of no disk: %v, %d, %v", l, life, ok)
	}
}

// A bit of any safe record that is another one is told.
func TestP15_5Damage(t *testing.T) {
	r := newRig(t, conf(), emptyDisk(t))
	r.act(ask(0, 1, 3))
	r.act(ask(1, 1, 1))
	img := r.d.Crash(nil)
	for i := range img[0].Data {
		img[0].Data[i] ^= byte(1 << (i % 8))
		d, _ := disk.Load(img, room)
		refused(t, r.c, d, api.ErrJournalDamage)
		img[0].Data[i] ^= byte(1 << (i % 8))
	}
}
