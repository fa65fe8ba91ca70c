package device_test

import (
	"fmt"
	"testing"

	"till/act"
	"till/api"
	"till/device"
	"till/disk"
)

// isDown: each call answers ErrDeviceDown and nothing else, whatever it is given; what it tells stays as it is.
func (r *rig) isDown() {
	r.t.Helper()
	before, disk := r.all(), seen(r.d)
	for range 3 {
		for _, a := range []api.Act{{}, write(-1), ask(down(1)), yield(1)} {
			if told, errno := r.v.Issue(a, api.Best); errno != api.ErrDeviceDown || told != (api.Told{}) {
				r.t.Fatalf("down: Issue: %+v, %d", told, errno)
			}
		}
		if out, errno := r.v.Tick(); errno != api.ErrDeviceDown || len(out) != 0 {
			r.t.Fatalf("down: Tick: %v, %d", out, errno)
		}
		for _, b := range [][]byte{nil, []byte("no frame")} {
			if errno := r.v.Hear(b); errno != api.ErrDeviceDown {
				r.t.Fatalf("down: Hear: %d", errno)
			}
		}
		r.hears(r.frame(), api.ErrDeviceDown)
	}
	if r.v.Runs() {
		r.t.Fatal("down: the lease runs")
	}
	if r.all() != before || seen(r.d) != disk {
		r.t.Fatalf("down: it is %s", r.all())
	}
}

// told tells all but whether the lease runs.
func (r *rig) told() string {
	return text([]any{r.v.Life(), r.v.Base(), r.v.View(), r.v.Pending(), r.v.Taken()})
}

// change is something that is to be kept.
type change struct {
	name string
	do   func(r *rig) api.Errno
}

func issues(a api.Act, takes int) change {
	return change{fmt.Sprintf("an act %+v", a), func(r *rig) api.Errno {
		told, errno := r.v.Issue(a, takes)
		if (errno == api.OK) != (told.Number != 0) {
			r.t.Fatalf("Issue: %+v, %d", told, errno)
		}
		return errno
	}}
}

func takes(name string, made func(r *rig) api.Entry) change {
	return change{name, func(r *rig) api.Errno {
		f := r.frame()
		f.Seq, f.Body = r.said+1, r.made(act.Body{Kind: act.BodyEntry, Entry: made(r)})
		b := frameBytes(r.t, f)
		errno := r.v.Hear(b)
		if errno == api.OK {
			r.said++
		}
		return errno
	}}
}

func changes() []change {
	return []change{
		issues(ask(up(1)), api.Loose),
		issues(write(-1), api.Sure),
		takes("an own entry", func(r *rig) api.Entry { return r.next() }),
		takes("another till's entry", func(r *rig) api.Entry { return r.other(1, write(1)) }),
		takes("a fence", func(r *rig) api.Entry { return r.fence(0) }),
	}
}

// before is what a till with rights and pending acts has on its disk, whose journal has so many transactions.
func before(t *testing.T, length int) []api.FileBytes {
	t.Helper()
	r := holding(t)
	r.issued(write(-1), api.Sure, 2, true)
	r.issued(ask(up(1)), api.Loose, 3, false)
	for n := 5; n < length; n++ {
		started(t, r.c, 0, r.d)
	}
	if g := len(transactions(t, r.d)); g != length {
		t.Fatalf("%d transactions", g)
	}
	return r.d.Crash(nil)
}

// busy is a rig over such a disk, whose lease runs.
func busy(t *testing.T, img []api.FileBytes) *rig {
	t.Helper()
	d, errno := disk.Load(img, room)
	if errno != api.OK {
		t.Fatal(errno)
	}
	r := newRig(t, conf(), 0, d)
	r.word()
	r.tick(1)
	return r
}

// images are disks of such tills, behind whose start the journal has few, one less than MaxRecords, and MaxRecords transactions.
func images(t *testing.T) map[int][]api.FileBytes {
	t.Helper()
	all := map[int][]api.FileBytes{}
	for _, length := range []int{6, api.MaxRecords - 1, api.MaxRecords} {
		all[length] = before(t, length-1)
	}
	return all
}

// after is what a device tells behind a change to it.
func after(t *testing.T, img []api.FileBytes, x change) string {
	t.Helper()
	r := busy(t, img)
	if errno := x.do(r); errno != api.OK {
		t.Fatalf("%s: %d", x.name, errno)
	}
	r.restart()
	return r.keptText()
}

func (r *rig) keptText() string { return text([]any{r.v.Taken(), r.v.Pending(), r.v.View()}) }

// Whatever the journal refuses for: the device is down, tells what it told, and stays so, also when there is room again.
func TestP16_2Refused(t *testing.T) {
	images := images(t)
	for _, x := range changes() {
		for _, img := range images {
			for _, plan := range []api.Plan{{Off: 1}, {Off: 2}, {FullFrom: 1, FullTo: 1}, {FullFrom: 1, FullTo: 1 << 30}} {
				r := busy(t, img)
				before := r.told()
				r.d.Plan(plan)
				if errno := x.do(r); errno != api.ErrDeviceDown {
					t.Fatalf("%s: %d", x.name, errno)
				}
				r.d.Plan(api.Plan{})
				if r.told() != before {
					t.Fatalf("%s: it is %s\nwant %s", x.name, r.told(), before)
				}
				r.isDown()
			}
		}
	}
}

// What is refused by the draft, or changes nothing, does not come to the journal.
func TestP16_2NothingToKeep(t *testing.T) {
	r := busy(t, before(t, 6))
	r.d.Plan(api.Plan{Off: 1, FullFrom: 1, FullTo: 99})
	r.notIssued(write(-9), api.Sure, api.ErrDraftRights)
	r.notIssued(api.Act{}, api.Sure, api.ErrActKind)
	r.word()
	r.entry(fenceEntry(9, 0, 1))
	r.bytes([]byte("any"), api.OK)
	r.tick(30)
	r.life, r.said = 5, 0
	r.word()
	r.tick(1)
	if !r.v.Runs() {
		t.Error("the lease does not run")
	}
	if errno := issues(ask(up(1)), api.Loose).do(r); errno != api.ErrDeviceDown {
		t.Errorf("Issue: %d", errno)
	}
	r.isDown()
}

// The power goes off at each stroke of a change, by a transaction of its own and by a checkpoint, also over a checkpoint that was left half way.
func TestP16_9EachStroke(t *testing.T) {
	images := images(t)
	for _, x := range changes() {
		for length, img := range images {
			want := after(t, img, x)
			for _, rest := range []string{"", "left from before"} {
				strokes := 2 // Append, Sync
				if length == api.MaxRecords {
					strokes = 4 + min(len(rest), 1) // Append, Sync, Rename, SyncNames; a Remove ahead
				}
				for off := 1; off <= strokes+1; off++ {
					r := busy(t, img)
					if rest != "" {
						r.d.Append("till.new", []byte(rest))
						r.d.Sync("till.new")
						r.d.SyncNames()
					}
					before, told := r.keptText(), r.told()
					r.d.Plan(api.Plan{Off: off})
					errno := x.do(r)
					if off > strokes {
						if errno != api.OK || r.keptText() != want {
							t.Fatalf("%s, %d: %d, %s", x.name, length, errno, r.keptText())
						}
						before = want
					} else if errno != api.ErrDeviceDown || r.told() != told {
						t.Fatalf("%s, %d, stroke %d: %d, %s", x.name, length, off, errno, r.told())
					}
					r.leaves(fmt.Sprint(x.name, length, rest, off), before, want)
				}
			}
		}
	}
}

// leaves: whatever a crash leaves is the device as it was, or with the change that was under way; and a start over it goes on.
func (r *rig) leaves(what, before, want string) {
	r.t.Helper()
	life := r.v.Life()
	found := map[string]int{}
	for names := range 3 {
		for _, one := range []int{0, -1, 13} {
			for _, two := range []int{0, -1} {
				picks := []int{names, one, two}
				d := left(r.t, r.d, picks...)
				again := &rig{t: r.t, c: r.c, d: d, v: started(r.t, r.c, 0, d), life: 9}
				got := again.keptText()
				if again.v.Life() != life+1 || got != before && got != want {
					r.t.Fatalf("%s, %v: life %d, %s", what, picks, again.v.Life(), got)
				}
				found[got]++
				again.word()
				again.entry(again.next())
			}
		}
	}
	if found[before] == 0 {
		r.t.Errorf("%s: no picks leave it as it was", what)
	}
}

// A start that is cut off in the midst has kept its life, or has not: the next one's is above it.
func TestP16_9Starts(t *testing.T) {
	for length, img := range images(t) {
		for off := 1; off <= 4; off++ {
			for _, picks := range [][]int{nil, {-1, -1, -1}, {-1, 9, 9}, {0, -1, -1}, {1, -1}} {
				r := busy(t, img)
				before, life := r.keptText(), r.v.Life()
				d := left(t, r.d)
				d.Plan(api.Plan{Off: off})
				v, errno := device.Start(r.c, 0, d)
				cut := off <= 3 || length == api.MaxRecords // Append, Sync, SyncNames; a checkpoint has a Rename, too
				if (v == nil) != cut || (errno == api.ErrDiskOff) != cut {
					t.Fatalf("%d, stroke %d: Start: %v, %d", length, off, v, errno)
				}
				d = left(t, d, picks...)
				_, _, kept, ok := device.Kept(r.c, 0, d)
				if !ok || kept != life && kept != life+1 || !cut && kept != life+1 {
					t.Fatalf("%d, stroke %d: life %d behind %d", length, off, kept, life)
				}
				again := &rig{t: t, c: r.c, d: d, v: started(t, r.c, 0, d)}
				if again.v.Life() != kept+1 || again.keptText() != before {
					t.Fatalf("%d, stroke %d: life %d, %s", length, off, again.v.Life(), again.keptText())
				}
			}
		}
	}
}

// A disk without room for one more act: down; nothing of it is there behind a start with more room.
func TestP16_2Full(t *testing.T) {
	d, _ := disk.New(35 + 33)
	r := newRig(t, conf(), 0, d)
	r.issued(ask(down(1)), api.Loose, 1, false)
	if told, errno := r.v.Issue(ask(down(1)), api.Loose); errno != api.ErrDeviceDown || told != (api.Told{}) {
		t.Errorf("Issue: %+v, %d", told, errno)
	}
	r.isDown()
	v := started(t, r.c, 0, left(t, r.d))
	if v.Life() != 2 || len(v.Pending()) != 1 {
		t.Errorf("life %d, %+v", v.Life(), v.Pending())
	}
}
