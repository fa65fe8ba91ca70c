package disk_test

import (
	"maps"
	"math"
	"math/big"
	"math/rand"
	"slices"
	"strings"
	"testing"

	"till/api"
	"till/disk"
)

// modelFile is what a file has been since it was safe: the first text is safe, the last one is seen.
type modelFile struct {
	past []string
}

func (f *modelFile) seen() string { return f.past[len(f.past)-1] }

// model is a disk told another way: it keeps no changes, but every state that the names and the files have been in since they were safe.
type model struct {
	room, strokes, planned int
	plan                   api.Plan
	off                    bool
	past                   []map[string]*modelFile
}

func newModel(room int) *model {
	return &model{room: room, past: []map[string]*modelFile{{}}}
}

func (m *model) seen() map[string]*modelFile { return m.past[len(m.past)-1] }

func (m *model) rename(do func(names map[string]*modelFile)) {
	names := maps.Clone(m.seen())
	do(names)
	m.past = append(m.past, names)
}

const nameBytes = "abcdefghijklmnopqrstuvwxyz0123456789.-_"

func mayBeName(s string) bool {
	return len(s) >= 1 && len(s) <= 64 && strings.Trim(s, nameBytes) == ""
}

// refused tells the errors that are no strokes, of a call that needs the file.
func (m *model) refused(name string) api.Errno {
	switch {
	case m.off:
		return api.ErrDiskOff
	case !mayBeName(name):
		return api.ErrDiskName
	case m.seen()[name] == nil:
		return api.ErrDiskNone
	}
	return api.OK
}

func (m *model) stroke() api.Errno {
	m.strokes++
	m.planned++
	if m.plan.Off >= 1 && m.planned == m.plan.Off {
		m.off = true
		return api.ErrDiskOff
	}
	return api.OK
}

func (m *model) isFull(more int) bool {
	if m.plan.FullFrom >= 1 && m.plan.FullFrom <= m.planned && m.plan.FullTo >= m.planned {
		return true
	}
	for _, f := range m.seen() {
		more += len(f.seen())
	}
	return more > m.room
}

func (m *model) Append(name string, b []byte) api.Errno {
	e := m.refused(name)
	if e == api.ErrDiskNone && len(m.seen()) == 64 {
		e = api.ErrDiskName
	}
	if e == api.ErrDiskOff || e == api.ErrDiskName {
		return e
	}
	power := m.stroke()
	if m.isFull(len(b)) {
		if power != api.OK {
			return power
		}
		return api.ErrDiskFull
	}
	if e == api.ErrDiskNone {
		m.rename(func(names map[string]*modelFile) { names[name] = &modelFile{past: []string{""}} })
	}
	f := m.seen()[name]
	for _, c := range b {
		f.past = append(f.past, f.seen()+string([]byte{c}))
	}
	return power
}

func (m *model) Cut(name string, n int) api.Errno {
	if e := m.refused(name); e != api.OK {
		return e
	}
	f := m.seen()[name]
	if n < 0 || n > len(f.seen()) {
		return api.ErrDiskCut
	}
	power := m.stroke()
	if n < len(f.seen()) {
		f.past = append(f.past, f.seen()[:n])
	}
	return power
}

func (m *model) Sync(name string) api.Errno {
	if e := m.refused(name); e != api.OK {
		return e
	}
	power := m.stroke()
	if power == api.OK {
		f := m.seen()[name]
		f.past = []string{f.seen()}
	}
	return power
}

func (m *model) SyncNames() api.Errno {
	if m.off {
		return api.ErrDiskOff
	}
	power := m.stroke()
	if power == api.OK {
		m.past = []map[string]*modelFile{m.seen()}
	}
	return power
}

func (m *model) Rename(from, to string) api.Errno {
	e := m.refused(from)
	if e != api.ErrDiskOff && !mayBeName(to) {
		e = api.ErrDiskName
	}
	if e != api.OK {
		return e
	}
	power := m.stroke()
	if from != to {
		m.rename(func(names map[string]*modelFile) {
			names[to] = names[from]
			delete(names, from)
		})
	}
	return power
}

func (m *model) Remove(name string) api.Errno {
	if e := m.refused(name); e != api.OK {
		return e
	}
	power := m.stroke()
	m.rename(func(names map[string]*modelFile) { delete(names, name) })
	return power
}

func (m *model) Plan(p api.Plan) {
	if !m.off {
		m.plan, m.planned = p, 0
	}
}

// chosen is a pick modulo how many there are to choose from, as an exact number.
func chosen(picks []int, i, among int) int {
	if i >= len(picks) {
		return 0
	}
	return int(new(big.Int).Mod(big.NewInt(int64(picks[i])), big.NewInt(int64(among))).Int64())
}

func (m *model) Crash(picks []int) string {
	names := m.past[chosen(picks, 0, len(m.past))]
	var out []string
	for i, n := range slices.Sorted(maps.Keys(names)) {
		past := names[n].past
		out = append(out, n+"="+past[chosen(picks, i+1, len(past))])
	}
	return strings.Join(out, " ")
}

func drawnPicks(r *rand.Rand) []int {
	var picks []int
	for range r.Intn(6) {
		switch r.Intn(6) {
		case 0:
			picks = append(picks, -r.Intn(12))
		case 1:
			picks = append(picks, []int{math.MinInt, math.MinInt + 1, math.MaxInt, math.MaxInt - 1}[r.Intn(4)])
		default:
			picks = append(picks, r.Intn(12))
		}
	}
	return picks
}

func drawnName(r *rand.Rand) string {
	if r.Intn(30) == 0 {
		return []string{"", "A", "a/b", "a b", strings.Repeat("x", 65), "\u00e4", "a\x00"}[r.Intn(7)]
	}
	return []string{"a", "b", "a.new", "j-1", "_"}[r.Intn(5)]
}

func drawnBytes(r *rand.Rand) []byte {
	b := make([]byte, r.Intn(6))
	for i := range b {
		b[i] = "pqrstuv\x00\xff"[r.Intn(9)]
	}
	return b
}

// both lets a disk and its model do one drawn call, and tells both answers.
func both(r *rand.Rand, d *disk.Disk, m *model) (what string, have, want api.Errno) {
	name, other := drawnName(r), drawnName(r)
	switch r.Intn(14) {
	case 0, 1, 2, 3, 4:
		b := drawnBytes(r)
		return "Append " + name + " " + string(b), d.Append(name, b), m.Append(name, b)
	case 5, 6:
		n := r.Intn(12) - 1
		return "Cut " + name, d.Cut(name, n), m.Cut(name, n)
	case 7:
		return "Sync " + name, d.Sync(name), m.Sync(name)
	case 8:
		return "SyncNames", d.SyncNames(), m.SyncNames()
	case 9, 10, 11:
		return "Rename " + name + " " + other, d.Rename(name, other), m.Rename(name, other)
	case 12:
		return "Remove " + name, d.Remove(name), m.Remove(name)
	}
	p := api.Plan{Off: r.Intn(60) - 30, FullFrom: r.Intn(20) - 5, FullTo: r.Intn(20) - 5}
	d.Plan(p)
	m.Plan(p)
	return "Plan", api.OK, api.OK
}

// alike holds all that a disk tells against its model.
func alike(t *testing.T, r *rand.Rand, d *disk.Disk, m *model) {
	t.Helper()
	if d.Strokes() != m.strokes || d.Room() != m.room {
		t.Fatalf("strokes %d, want %d; room %d, want %d", d.Strokes(), m.strokes, d.Room(), m.room)
	}
	picks := drawnPicks(r)
	if g, w := told(d.Crash(picks)), m.Crash(picks); g != w {
		t.Fatalf("Crash(%v): %q, want %q", picks, g, w)
	}
	list, e := d.List()
	if m.off {
		if list != nil || e != api.ErrDiskOff {
			t.Fatalf("List with the power off: %q, %d", list, e)
		}
		return
	}
	if e != api.OK || !slices.Equal(list, slices.Sorted(maps.Keys(m.seen()))) {
		t.Fatalf("List: %q, %d", list, e)
	}
	total := 0
	for name, f := range m.seen() {
		b, e := d.Read(name)
		n, sized := d.Size(name)
		if e != api.OK || sized != api.OK || string(b) != f.seen() || n != len(b) {
			t.Fatalf("Read(%s): %q, %d, size %d, %d; want %q", name, b, e, n, sized, f.seen())
		}
		total += n
	}
	if total > m.room {
		t.Fatalf("%d bytes are seen, in a room for %d", total, m.room)
	}
}

func TestDrawnCalls(t *testing.T) {
	r := rand.New(rand.NewSource(41))
	for range 4000 {
		room := []int{0, 5, 12, 40, 500}[r.Intn(5)]
		d, m := made(t, room), newModel(room)
		var calls []string
		for range 60 {
			what, have, want := both(r, d, m)
			calls = append(calls, what)
			if have != want {
				t.Fatalf("%q: error %d, want %d", calls, have, want)
			}
			alike(t, r, d, m)
		}
	}
}

// A disk goes on over what a crash has left.
func TestDrawnLives(t *testing.T) {
	r := rand.New(rand.NewSource(42))
	for range 500 {
		d, m := made(t, 300), newModel(300)
		for range 8 {
			for range r.Intn(20) {
				both(r, d, m)
			}
			picks := drawnPicks(r)
			img, want := d.Crash(picks), m.Crash(picks)
			if told(img) != want {
				t.Fatalf("Crash(%v): %q, want %q", picks, told(img), want)
			}
			d, m = loaded(t, img, 1000), newModel(1000)
			for _, f := range img {
				m.past[0][f.Name] = &modelFile{past: []string{string(f.Data)}}
			}
			alike(t, r, d, m)
		}
	}
}
