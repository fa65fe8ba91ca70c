package journal_test

import (
	"bytes"
	"slices"
	"strings"
	"testing"

	"till/api"
	"till/code"
	"till/disk"
	"till/journal"
)

// words is a transaction of texts.
func words(l ...string) [][]byte {
	var parts [][]byte
	for _, s := range l {
		parts = append(parts, []byte(s))
	}
	return parts
}

// bodyOf is a record's body by the chapter; count is told apart from the parts, so that it may be wrong.
func bodyOf(number uint64, count int, parts ...string) []byte {
	w := code.New()
	w.U64(number)
	w.U32(uint32(count))
	for _, p := range parts {
		w.Bytes([]byte(p))
	}
	return w.Out()
}

// recordOf lays a body, also one that may not be, between a right sum of head and tail.
func recordOf(body []byte) []byte {
	w := code.New()
	w.U8(0xa7)
	w.U32(uint32(len(body)))
	w.U32(code.Sum(w.Out()))
	w.Raw(body)
	w.U32(code.Sum(body))
	return w.Out()
}

func rec(number uint64, parts ...string) []byte {
	return recordOf(bodyOf(number, len(parts), parts...))
}

// told is a row of transactions in words.
func told(all [][][]byte) string {
	var out []string
	for _, parts := range all {
		out = append(out, "["+string(bytes.Join(parts, []byte(" ")))+"]")
	}
	return strings.Join(out, " ")
}

func loaded(t *testing.T, room int, img ...api.FileBytes) *disk.Disk {
	t.Helper()
	d, e := disk.Load(img, room)
	if e != api.OK {
		t.Fatalf("Load: %d", e)
	}
	return d
}

// file is a disk's image of just one file.
func file(name string, b ...[]byte) api.FileBytes {
	return api.FileBytes{Name: name, Data: bytes.Join(b, nil)}
}

func opened(t *testing.T, d *disk.Disk, name string) *journal.Journal {
	t.Helper()
	j, e := journal.Open(d, name)
	if e != api.OK || j == nil {
		t.Fatalf("Open(%q): %v, %d", name, j, e)
	}
	return j
}

func tells(t *testing.T, j *journal.Journal, want string, next uint64, torn bool) {
	t.Helper()
	all := j.All()
	if told(all) != want || len(all) != j.Len() || j.Next() != next || j.Torn() != torn {
		t.Errorf("the journal tells %q, Len %d, Next %d, Torn %v; want %q, %d, %v", told(all), j.Len(), j.Next(), j.Torn(), want, next, torn)
	}
}

func answers(t *testing.T, what string, have, want api.Errno) {
	t.Helper()
	if have != want {
		t.Errorf("%s: error %d, want %d", what, have, want)
	}
}

func strokes(t *testing.T, d *disk.Disk, want int) {
	t.Helper()
	if d.Strokes() != want {
		t.Errorf("%d strokes, want %d", d.Strokes(), want)
	}
}

func holds(t *testing.T, d *disk.Disk, name string, want ...[]byte) {
	t.Helper()
	if b, e := d.Read(name); e != api.OK || !bytes.Equal(b, bytes.Join(want, nil)) {
		t.Errorf("file %s: %x, %d; want %x", name, b, e, bytes.Join(want, nil))
	}
}

func files(t *testing.T, d *disk.Disk, want ...string) {
	t.Helper()
	if l, e := d.List(); e != api.OK || !slices.Equal(l, want) {
		t.Errorf("files %q, %d; want %q", l, e, want)
	}
}

// turnOff has the power go off at the next stroke, and makes one.
func turnOff(d *disk.Disk) {
	d.Plan(api.Plan{Off: 1})
	d.SyncNames()
}

func TestP5_1Names(t *testing.T) {
	good := []string{"j", "a.-_9", ".", "j.new", strings.Repeat("a", 60)}
	wrong := []string{"", "J", "a/b", "a b", "ä", "a\x00", strings.Repeat("a", 61), strings.Repeat("a", 64), strings.Repeat("a", 65)}
	on, off := loaded(t, 10), loaded(t, 10)
	turnOff(off)
	for _, name := range good {
		opened(t, on, name)
		j, e := journal.Open(off, name)
		if answers(t, "Open of "+name+" with the power off", e, api.ErrDiskOff); j != nil {
			t.Errorf("Open of %s with the power off: a journal", name)
		}
	}
	for _, name := range wrong {
		for _, d := range []*disk.Disk{on, off} {
			j, e := journal.Open(d, name)
			if answers(t, "Open of "+name, e, api.ErrJournalName); j != nil {
				t.Errorf("Open of %q: a journal", name)
			}
		}
	}
	strokes(t, on, 0)
	files(t, on)
}

func TestP5_1Good(t *testing.T) {
	for _, c := range []struct {
		b    []byte
		want string
		next uint64
		torn bool
	}{
		{nil, "", 1, false},
		{rec(1, "a"), "[a]", 2, false},
		{slices.Concat(rec(1, "a"), rec(2, "b", "cd")), "[a] [b cd]", 3, false},
		{rec(5), "[]", 6, false},
		{slices.Concat(rec(5, "", "x"), rec(6), rec(7, "y")), "[ x] [] [y]", 8, false},
		{rec(api.MaxNumber, "z"), "[z]", api.MaxNumber + 1, false},
		{[]byte{0}, "", 1, true},
		{make([]byte, 8), "", 1, true},
		{slices.Concat(rec(4, "a"), make([]byte, 8)), "[a]", 5, true},
		{slices.Concat(rec(4, "a"), rec(9, "b")[:9]), "[a]", 5, true},
		{slices.Concat(rec(4, "a"), rec(9, "b")[:26]), "[a]", 5, true},
	} {
		d := loaded(t, 1000, file("j", c.b), file("j.new", []byte("no record")))
		tells(t, opened(t, d, "j"), c.want, c.next, c.torn)
		strokes(t, d, 0)
		holds(t, d, "j", c.b)
		files(t, d, "j", "j.new")
	}
	d := loaded(t, 1000)
	tells(t, opened(t, d, "j"), "", 1, false)
	files(t, d)
}

func TestP5_1Damaged(t *testing.T) {
	a := rec(1, "a")
	headAlone := func(body uint32) []byte {
		w := code.New()
		w.U8(0xa7)
		w.U32(body)
		w.U32(code.Sum(w.Out()))
		return w.Out()
	}
	for what, b := range map[string][]byte{
		"a gap":                          slices.Concat(rec(5), rec(6), rec(8)),
		"the same number twice":          slices.Concat(rec(5), rec(5)),
		"numbers that fall":              slices.Concat(rec(5), rec(4)),
		"number 0":                       rec(0, "a"),
		"a number above MaxNumber":       rec(api.MaxNumber+1, "a"),
		"one behind MaxNumber":           slices.Concat(rec(api.MaxNumber), rec(api.MaxNumber+1)),
		"nine bytes of nothing":          make([]byte, 9),
		"a record behind a byte":         slices.Concat([]byte{0}, a),
		"nine zeros behind a record":     slices.Concat(a, make([]byte, 9)),
		"a body of 11 bytes":             recordOf(bodyOf(1, 0)[:11]),
		"a head of a body of 11 bytes":   headAlone(11),
		"a head of a body of no bytes":   headAlone(0),
		"a head of a record too long":    headAlone(api.MaxRecord - 12),
		"a head of 2^32 - 1":             headAlone(1<<32 - 1),
		"another mark, its sum right":    reheaded(a, 0xa6),
		"fewer parts than the count":     recordOf(bodyOf(1, 2, "a")),
		"more parts than the count":      recordOf(bodyOf(1, 0, "a")),
		"a count above MaxParts":         recordOf(bodyOf(1, api.MaxParts+1, make([]string, api.MaxParts+1)...)),
		"a length that is not shortest":  recordOf(append(bodyOf(1, 1), 0x81, 0, 'a')),
		"a length that leaves the body":  recordOf(append(bodyOf(1, 1), 5, 'a')),
		"another tail":                   turned(a, len(a)-1, 0x80),
		"a turned length":                turned(a, 3, 1),
		"a turned body":                  turned(a, 22, 4),
		"a bad record ahead of good":     slices.Concat(turned(a, 22, 4), rec(2)),
		"a bad record behind a good one": slices.Concat(a, turned(rec(2), 12, 1)),
	} {
		d := loaded(t, 1<<15, file("j", b))
		j, e := journal.Open(d, "j")
		if answers(t, what, e, api.ErrJournalDamage); j != nil {
			t.Errorf("%s: a journal", what)
		}
		strokes(t, d, 0)
		holds(t, d, "j", b)
	}
	for _, body := range []uint32{12, 13, 141, api.MaxRecord - 13} {
		d := loaded(t, 1000, file("j", headAlone(body)))
		tells(t, opened(t, d, "j"), "", 1, true)
	}
}

// reheaded gives a record another first byte, and its head the sum that belongs to it.
func reheaded(record []byte, mark byte) []byte {
	w := code.New()
	w.U8(mark)
	w.Raw(record[1:5])
	w.U32(code.Sum(w.Out()))
	w.Raw(record[9:])
	return w.Out()
}

func turned(b []byte, at int, bits byte) []byte {
	b = slices.Clone(b)
	b[at] ^= bits
	return b
}

func TestP5_2Strokes(t *testing.T) {
	d := loaded(t, 1000)
	j := opened(t, d, "j")
	answers(t, "the first Add", j.Add(words("a")), api.OK)
	strokes(t, d, 3)
	holds(t, d, "j", rec(1, "a"))
	answers(t, "the second Add", j.Add(words("b", "cd")), api.OK)
	strokes(t, d, 5)
	holds(t, d, "j", rec(1, "a"), rec(2, "b", "cd"))
	tells(t, j, "[a] [b cd]", 3, false)
	answers(t, "Add of no parts", j.Add(nil), api.OK)
	strokes(t, d, 7)
	if n, _ := d.Size("j"); n != 27+30+25 {
		t.Errorf("the file has %d bytes", n)
	}
	k := opened(t, loaded(t, 1000, d.Crash(nil)...), "j")
	tells(t, k, "[a] [b cd] []", 4, false)
	first := []byte{0xa7, 0, 0, 0, 0x0e, 0, 0, 0, 0, 0, 0, 0, 0, 0, 0, 0, 1, 0, 0, 0, 1, 1, 'a', 0, 0, 0, 0}
	sumAt(first, 5, first[:5])
	sumAt(first, 23, first[9:23])
	b, _ := d.Read("j")
	if !bytes.Equal(b[:27], first) {
		t.Errorf("the first record is %x, want %x", b[:27], first)
	}
}

// sumAt lays the sum of some bytes at a place, the highest byte first.
func sumAt(b []byte, at int, of []byte) {
	n := code.Sum(of)
	for i := range 4 {
		b[at+i] = byte(n >> (24 - 8*i))
	}
}

// The first Add that is answered OK syncs the names, not the first that is made; a Checkpoint counts as well.
func TestP5_2NamesOnce(t *testing.T) {
	d := loaded(t, 1000)
	j := opened(t, d, "j")
	d.Plan(api.Plan{FullFrom: 1, FullTo: 1})
	answers(t, "Add to a full disk", j.Add(words("a")), api.ErrDiskFull)
	strokes(t, d, 1)
	files(t, d)
	answers(t, "Add with room", j.Add(words("a")), api.OK)
	strokes(t, d, 4)
	answers(t, "Add", j.Add(words("a")), api.OK)
	strokes(t, d, 6)

	d = loaded(t, 1000)
	j = opened(t, d, "j")
	answers(t, "Checkpoint", j.Checkpoint(words("a")), api.OK)
	strokes(t, d, 4)
	answers(t, "Add behind a Checkpoint", j.Add(words("b")), api.OK)
	strokes(t, d, 6)

	k := opened(t, d, "j")
	answers(t, "the first Add of one opened anew", k.Add(words("c")), api.OK)
	strokes(t, d, 9)
}

func TestP5_2Torn(t *testing.T) {
	a, tail := rec(1, "a"), rec(2, "b", "cd")[:29]
	d := loaded(t, 1000, file("j", a, tail))
	j := opened(t, d, "j")
	tells(t, j, "[a]", 2, true)
	answers(t, "Add", j.Add(words("z")), api.OK)
	strokes(t, d, 4)
	tells(t, j, "[a] [z]", 3, false)
	holds(t, d, "j", a, rec(2, "z"))

	// The Cut counts, though the Append behind it is refused.
	d = loaded(t, 1000, file("j", a, tail))
	j = opened(t, d, "j")
	d.Plan(api.Plan{FullFrom: 1, FullTo: 2})
	answers(t, "Add to a full disk", j.Add(words("z")), api.ErrDiskFull)
	strokes(t, d, 2)
	tells(t, j, "[a]", 2, false)
	holds(t, d, "j", a)
	answers(t, "Add with room", j.Add(words("y")), api.OK)
	strokes(t, d, 5)
	tells(t, j, "[a] [y]", 3, false)

	// A Cut that is refused leaves it torn.
	d = loaded(t, 1000, file("j", a, tail))
	j = opened(t, d, "j")
	d.Plan(api.Plan{Off: 1})
	answers(t, "Add at the power off", j.Add(words("z")), api.ErrDiskOff)
	tells(t, j, "[a]", 2, true)
	d = loaded(t, 1000, file("j", a, tail))
	j = opened(t, d, "j")
	d.Remove("j")
	answers(t, "Add to a file that is gone", j.Add(words("z")), api.ErrDiskNone)
	tells(t, j, "[a]", 2, true)
	answers(t, "again", j.Add(words("z")), api.ErrDiskNone)

	// What is too long is refused ahead of the Cut.
	d = loaded(t, 1000, file("j", a, tail))
	j = opened(t, d, "j")
	answers(t, "Add of 4097 parts", j.Add(make([][]byte, 4097)), api.ErrJournalLong)
	tells(t, j, "[a]", 2, true)
	strokes(t, d, 0)
}

func TestP5_2Long(t *testing.T) {
	keeps := map[string]func(*journal.Journal, [][]byte) api.Errno{"Add": (*journal.Journal).Add, "Checkpoint": (*journal.Journal).Checkpoint}
	most := 1<<22 - 13 - 12 - 4 // the length of so many bytes takes four
	huge := make([]byte, 1<<30)
	for what, keep := range keeps {
		d := loaded(t, api.MaxRoom)
		j := opened(t, d, "j")
		answers(t, what+" of 4097 parts", keep(j, make([][]byte, api.MaxParts+1)), api.ErrJournalLong)
		answers(t, what+" of MaxRecord and 1", keep(j, [][]byte{make([]byte, most+1)}), api.ErrJournalLong)
		answers(t, what+" of MaxRecord and 1, in two", keep(j, [][]byte{make([]byte, most), nil}), api.ErrJournalLong)
		answers(t, what+" of MaxRecord", keep(j, [][]byte{huge[:api.MaxRecord]}), api.ErrJournalLong)
		many := make([][]byte, api.MaxParts)
		for i := range many {
			many[i] = huge
		}
		answers(t, what+" of far too much", keep(j, many), api.ErrJournalLong)
		strokes(t, d, 0)
		tells(t, j, "", 1, false)
		answers(t, what+" of MaxRecord", keep(j, [][]byte{make([]byte, most)}), api.OK)
		if n, _ := d.Size("j"); n != api.MaxRecord {
			t.Errorf("%s: the file has %d bytes", what, n)
		}
		answers(t, what+" of 4096 parts", keep(j, make([][]byte, api.MaxParts)), api.OK)
		k := opened(t, d, "j")
		if l := k.All(); len(l) != j.Len() || len(l[len(l)-1]) != api.MaxParts || k.Next() != 3 {
			t.Errorf("%s: opened anew: %d transactions, Next %d", what, len(l), k.Next())
		}

		d = loaded(t, 1000, file("j", rec(api.MaxNumber-1, "a")))
		j = opened(t, d, "j")
		answers(t, what+" of number MaxNumber", keep(j, nil), api.OK)
		n := d.Strokes()
		answers(t, what+" behind it", keep(j, nil), api.ErrJournalLong)
		strokes(t, d, n)
		if j.Next() != api.MaxNumber+1 {
			t.Errorf("%s: Next %d", what, j.Next())
		}
	}
}

func TestP5_2Off(t *testing.T) {
	d := loaded(t, 1000)
	j := opened(t, d, "j")
	answers(t, "Add", j.Add(words("a")), api.OK)
	turnOff(d)
	// The journal has not met it yet: what is too long is told first.
	answers(t, "Add of 4097 parts", j.Add(make([][]byte, 4097)), api.ErrJournalLong)
	answers(t, "Add", j.Add(words("b")), api.ErrDiskOff)
	answers(t, "Add", j.Add(words("b")), api.ErrJournalOff)
	answers(t, "Add of 4097 parts", j.Add(make([][]byte, 4097)), api.ErrJournalOff)
	answers(t, "Checkpoint", j.Checkpoint(nil), api.ErrJournalOff)
	answers(t, "Checkpoint of 4097 parts", j.Checkpoint(make([][]byte, 4097)), api.ErrJournalOff)
	tells(t, j, "[a]", 2, false)

	d = loaded(t, 1000)
	j = opened(t, d, "j")
	turnOff(d)
	answers(t, "Checkpoint", j.Checkpoint(words("b")), api.ErrDiskOff)
	answers(t, "Checkpoint", j.Checkpoint(words("b")), api.ErrJournalOff)
	answers(t, "Add", j.Add(words("b")), api.ErrJournalOff)
	tells(t, j, "", 1, false)
}

// Any other refusal of the disk lets the journal go on.
func TestP5_2Full(t *testing.T) {
	d := loaded(t, 80)
	j := opened(t, d, "j")
	for i, want := range []api.Errno{api.OK, api.OK, api.ErrDiskFull, api.ErrDiskFull} {
		answers(t, "Add in 80 bytes", j.Add(words("a")), want)
		if j.Len() != min(i+1, 2) {
			t.Errorf("%d transactions", j.Len())
		}
	}
	answers(t, "Add of less", j.Add(nil), api.OK)
	tells(t, j, "[a] [a] []", 4, false)

	var img []api.FileBytes
	for i := range api.MaxDisk {
		img = append(img, file("f"+string([]byte{byte('0' + i/10), byte('0' + i%10)})))
	}
	j = opened(t, loaded(t, 1000, img...), "j")
	answers(t, "Add beside MaxDisk files", j.Add(nil), api.ErrDiskName)
	answers(t, "Checkpoint beside MaxDisk files", j.Checkpoint(nil), api.ErrDiskName)
	answers(t, "Add beside MaxDisk files", j.Add(nil), api.ErrDiskName)
}

func TestP5_3Checkpoint(t *testing.T) {
	d := loaded(t, 1000)
	j := opened(t, d, "j")
	j.Add(words("a"))
	j.Add(words("b", "cd"))
	answers(t, "Checkpoint", j.Checkpoint(words("s")), api.OK)
	strokes(t, d, 3+2+4)
	tells(t, j, "[s]", 4, false)
	holds(t, d, "j", rec(3, "s"))
	files(t, d, "j")
	answers(t, "Add", j.Add(words("t")), api.OK)
	holds(t, d, "j", rec(3, "s"), rec(4, "t"))
	answers(t, "Checkpoint of no parts", j.Checkpoint(nil), api.OK)
	tells(t, j, "[]", 6, false)
	tells(t, opened(t, loaded(t, 1000, d.Crash(nil)...), "j"), "[]", 6, false)
}

func TestP5_3Second(t *testing.T) {
	d := loaded(t, 1000, file("j", rec(1, "a")), file("j.new", []byte("left")))
	j := opened(t, d, "j")
	answers(t, "Add", j.Add(words("b")), api.OK)
	files(t, d, "j", "j.new")
	answers(t, "Checkpoint", j.Checkpoint(words("s")), api.OK)
	strokes(t, d, 3+5)
	holds(t, d, "j", rec(3, "s"))
	files(t, d, "j")

	// A second file without bytes is there as well.
	d = loaded(t, 1000, file("j.new"))
	j = opened(t, d, "j")
	answers(t, "Checkpoint", j.Checkpoint(words("s")), api.OK)
	strokes(t, d, 5)
}

func TestP5_3Refused(t *testing.T) {
	a, tail := rec(1, "a"), rec(2, "b")[:20]
	d := loaded(t, 60, file("j", a, tail), file("j.new", []byte("left")))
	j := opened(t, d, "j")
	answers(t, "Checkpoint without room", j.Checkpoint(words("s")), api.ErrDiskFull)
	strokes(t, d, 2) // the Remove was carried out
	tells(t, j, "[a]", 2, true)
	holds(t, d, "j", a, tail)
	files(t, d, "j")
	answers(t, "Add", j.Add(words("z")), api.OK)
	tells(t, j, "[a] [z]", 3, false)

	d = loaded(t, 1000, file("j", a, tail))
	j = opened(t, d, "j")
	answers(t, "Checkpoint over a torn file", j.Checkpoint(words("s")), api.OK)
	strokes(t, d, 4)
	tells(t, j, "[s]", 3, false)
	answers(t, "Add", j.Add(words("z")), api.OK)
	strokes(t, d, 6)
	holds(t, d, "j", rec(2, "s"), rec(3, "z"))

	for off := 1; off <= 5; off++ {
		d = loaded(t, 1000, file("j", a, tail), file("j.new", []byte("left")))
		j = opened(t, d, "j")
		d.Plan(api.Plan{Off: off})
		answers(t, "Checkpoint at the power off", j.Checkpoint(words("s")), api.ErrDiskOff)
		strokes(t, d, off)
		tells(t, j, "[a]", 2, true)
		answers(t, "Checkpoint behind it", j.Checkpoint(words("s")), api.ErrJournalOff)
	}
}

func TestP5_5Examples(t *testing.T) {
	d := loaded(t, 1000)
	j := opened(t, d, "j")
	j.Add(words("a"))
	d.Plan(api.Plan{Off: 1})
	answers(t, "Add at the power off", j.Add(words("b", "cd")), api.ErrDiskOff)
	tells(t, opened(t, loaded(t, 1000, d.Crash([]int{0, 30})...), "j"), "[a] [b cd]", 3, false)
	d = loaded(t, 1000, d.Crash([]int{0, 29})...)
	j = opened(t, d, "j")
	tells(t, j, "[a]", 2, true)
	answers(t, "Add", j.Add(words("z")), api.OK)
	strokes(t, d, 4)
	tells(t, j, "[a] [z]", 3, false)

	d.Plan(api.Plan{Off: 3})
	answers(t, "Checkpoint, off at the Rename", j.Checkpoint(words("s")), api.ErrDiskOff)
	tells(t, opened(t, loaded(t, 1000, d.Crash([]int{-1, -1})...), "j"), "[s]", 4, false)
	// Of the name changes only that j.new was made is kept.
	d = loaded(t, 1000, d.Crash([]int{1, -1, -1})...)
	files(t, d, "j", "j.new")
	j = opened(t, d, "j")
	tells(t, j, "[a] [z]", 3, false)
	answers(t, "Checkpoint", j.Checkpoint(words("s")), api.OK)
	strokes(t, d, 5)
}

func TestP5_6EveryBit(t *testing.T) {
	whole := slices.Concat(rec(1, "a"), rec(2), rec(3, "b", "cd"))
	for _, behind := range [][]byte{nil, {1}, rec(4, "x")[:20]} {
		for bit := range 8 * len(whole) {
			b := slices.Concat(turned(whole, bit/8, 1<<(bit%8)), behind)
			if j, e := journal.Open(loaded(t, 1000, file("j", b)), "j"); e != api.ErrJournalDamage || j != nil {
				t.Fatalf("bit %d turned, %d bytes behind: %d", bit, len(behind), e)
			}
		}
	}
}

func TestP5_7Memory(t *testing.T) {
	d := loaded(t, 1000)
	j := opened(t, d, "j")
	parts := make([][]byte, 2, 3)
	parts[0], parts[1] = append(make([]byte, 0, 8), "ab"...), []byte("c")
	spare := parts[:3]
	j.Add(parts)
	j.Checkpoint(parts)
	j.Add(parts)
	if told([][][]byte{parts}) != "[ab c]" || spare[2] != nil || parts[0][:8][2] != 0 {
		t.Errorf("what was handed in is %q now", spare)
	}
	parts[0][0], parts[1] = 'x', nil
	tells(t, j, "[ab c] [ab c]", 4, false)
	k := opened(t, d, "j")
	for _, j := range []*journal.Journal{j, k} {
		all := j.All()
		for i := range all {
			for p := range all[i] {
				clear(all[i][p][:cap(all[i][p])])
			}
			_ = append(all[i], []byte("more"))
		}
		all[0] = append(all[0], []byte("more"))
		all[1][0] = []byte("other")
		tells(t, j, "[ab c] [ab c]", 4, false)
		one := j.All()
		_ = append(one[0], []byte("behind"))
		_ = append(one[0][0], "behind"...)
		if told(one) != "[ab c] [ab c]" {
			t.Errorf("what is laid behind one list is seen in another: %q", told(one))
		}
	}
	holds(t, d, "j", rec(2, "ab", "c"), rec(3, "ab", "c"))
}

func TestP5_7Apart(t *testing.T) {
	d := loaded(t, 1000)
	j, k := opened(t, d, "j"), opened(t, d, "k")
	j.Add(words("a"))
	k.Add(words("b"))
	k.Checkpoint(words("c"))
	j.Add(words("d"))
	tells(t, j, "[a] [d]", 3, false)
	tells(t, k, "[c]", 3, false)
	d = loaded(t, 1000, d.Crash(nil)...)
	tells(t, opened(t, d, "j"), "[a] [d]", 3, false)
	tells(t, opened(t, d, "k"), "[c]", 3, false)
}

// A journal that Open has not made, or over no disk, is refused by a disk without room.
func TestP5_7NoPanic(t *testing.T) {
	var j journal.Journal
	tells(t, &j, "", 1, false)
	answers(t, "Add to none", j.Add(words("a")), api.ErrDiskName)
	answers(t, "Checkpoint of none", j.Checkpoint(words("a")), api.ErrDiskFull)
	k := opened(t, nil, "j")
	answers(t, "Add over no disk", k.Add(words("a")), api.ErrDiskFull)
	answers(t, "Checkpoint over no disk", k.Checkpoint(words("a")), api.ErrDiskFull)
	tells(t, k, "", 1, false)
}
