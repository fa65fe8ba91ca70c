package device_test

import (
	"math/rand"
	"slices"
	"testing"

	"till/api"
	"till/device"
	"till/disk"
	"till/server"
)

// node is a disk, and what runs over it: the server, or a till; nothing, if it is down.
type node struct {
	disk *disk.Disk
	till *device.Device
	srv  *server.Server
	life uint64 // the last one of which it is known
}

// floor is tills and their server, with a bad net between.
type floor struct {
	t *testing.T
	chance
	c      api.Config
	nodes  []node
	flying []api.Flight
	sure   []api.Head          // what was answered as sure
	issued map[api.Head]string // all that was answered
	count  map[string]int
}

func (r chance) floor(t *testing.T) *floor {
	f := &floor{t: t, chance: r, c: r.config(), issued: map[api.Head]string{}, count: map[string]int{}}
	for range f.c.Tills + 1 {
		d, _ := disk.New(api.NodeRoom)
		f.nodes = append(f.nodes, node{disk: d})
	}
	for i := range f.nodes {
		f.start(i)
	}
	return f
}

func (f *floor) start(i int) {
	f.t.Helper()
	n := &f.nodes[i]
	var errno api.Errno
	life := n.life
	if i == f.c.Tills {
		if n.srv, errno = server.Start(f.c, n.disk); errno == api.OK {
			n.life = n.srv.Life()
		}
	} else if n.till, errno = device.Start(f.c, i, n.disk); errno == api.OK {
		n.life = n.till.Life()
	}
	if errno == api.ErrDiskOff {
		f.falls(i)
		return
	}
	if errno != api.OK || n.life <= life {
		f.t.Fatalf("Start of %d: %d, life %d behind %d", i, errno, n.life, life)
	}
}

// falls takes a node's power away.
func (f *floor) falls(i int) {
	f.count["falls"]++
	f.nodes[i] = node{disk: left(f.t, f.nodes[i].disk, f.Intn(5)-1, f.Intn(60)-1, f.Intn(60)-1), life: f.nodes[i].life}
}

func (f *floor) isUp(i int) bool { return f.nodes[i].till != nil || f.nodes[i].srv != nil }

func (f *floor) hear(m api.Flight) {
	f.t.Helper()
	n := f.nodes[m.To]
	errno := api.OK
	if n.srv != nil {
		errno = n.srv.Hear(m.Bytes)
	} else if n.till != nil {
		errno = n.till.Hear(m.Bytes)
	}
	if errno != api.OK {
		f.falls(m.To)
	}
}

func (f *floor) tick(i int) {
	f.t.Helper()
	n := f.nodes[i]
	var out []api.Flight
	errno := api.OK
	if n.srv != nil {
		out, errno = n.srv.Tick()
	} else if n.till != nil {
		out, errno = n.till.Tick()
	}
	if errno != api.OK {
		f.falls(i)
		return
	}
	f.flying = append(f.flying, out...)
}

func (f *floor) issue(i int) {
	f.t.Helper()
	v := f.nodes[i].till
	if v == nil {
		return
	}
	a := f.act(f.c, i)
	told, errno := v.Issue(a, f.Intn(3))
	if errno == api.ErrDeviceDown {
		f.falls(i)
		return
	}
	if errno != api.OK {
		return
	}
	pending := v.Pending()
	a = pending[len(pending)-1]
	if a.Number != told.Number || a.Sure != told.Sure || f.issued[a.Head] != "" {
		f.t.Fatalf("%+v is told of %+v", told, a)
	}
	f.issued[a.Head] = text(a)
	if told.Sure {
		f.sure = append(f.sure, a.Head)
	}
}

func (f *floor) step() {
	f.t.Helper()
	i := f.Intn(len(f.nodes))
	switch k := f.Intn(30); {
	case k < 8 && len(f.flying) > 0:
		at := f.Intn(min(len(f.flying), 6))
		m := f.flying[at]
		if f.Intn(6) > 0 {
			f.flying = slices.Delete(f.flying, at, at+1)
		}
		f.hear(m)
	case k < 10 && len(f.flying) > 30:
		f.flying = f.flying[20:]
	case k < 16:
		f.tick(i)
	case k < 17:
		f.issue(f.Intn(f.c.Tills))
	case k == 17 && f.Intn(10) == 0:
		f.falls(i)
	case k == 18 && f.Intn(10) == 0:
		f.nodes[i].disk.Plan(api.Plan{Off: 1 + f.Intn(4)})
	case k == 19:
		if i = f.Intn(len(f.nodes)); !f.isUp(i) {
			f.start(i)
		}
	}
}

// calm: all are up, all that is said comes; in the end no act is pending, and each till has all entries.
func (f *floor) calm() {
	f.t.Helper()
	for i := range f.nodes {
		f.nodes[i].disk.Plan(api.Plan{})
		if !f.isUp(i) {
			f.start(i)
		}
	}
	srv := f.nodes[f.c.Tills].srv
	for round := range 4000 {
		now := f.flying
		f.flying = nil
		for _, m := range now {
			f.hear(m)
		}
		for i := range f.nodes {
			f.tick(i)
		}
		if round > f.c.Watch && f.settled(srv) {
			return
		}
	}
	f.t.Fatalf("it does not settle: %d entries", len(srv.Log()))
}

func (f *floor) settled(srv *server.Server) bool {
	for _, n := range f.nodes[:f.c.Tills] {
		if len(n.till.Pending()) > 0 || n.till.Base().Position != srv.State().Position {
			return false
		}
	}
	return true
}

// holds holds the log against what was answered.
func (f *floor) holds() {
	f.t.Helper()
	srv := f.nodes[f.c.Tills].srv
	log := srv.Log()
	there := map[api.Head]api.Entry{}
	for _, e := range log {
		if e.Act.Kind == api.ActNone {
			f.count["fences"]++
			continue
		}
		there[e.Act.Head] = e
		if want := f.issued[e.Act.Head]; want != "" && want != text(e.Act) {
			f.t.Fatalf("%+v was issued as %s", e.Act, want)
		}
	}
	for head := range f.issued {
		if _, ok := there[head]; !ok {
			f.t.Fatalf("%+v was answered, and is lost", head)
		}
	}
	for _, head := range f.sure {
		if e := there[head]; e.Outcome != api.Applied || text(e.Made) != text(e.Act.Lines) {
			f.t.Fatalf("answered as sure: %+v", e)
		}
		f.count["sure"]++
	}
	for i, n := range f.nodes[:f.c.Tills] {
		if text(n.till.Base()) != text(srv.State()) || text(n.till.View()) != text(srv.State()) || text(n.till.Taken()) != text(log) {
			f.t.Fatalf("till %d: %+v\nwant %+v", i, n.till.Base(), srv.State())
		}
	}
	f.count["acts"] += len(there)
}

// Of P16.9 and P16.10, with the server itself: whatever is lost, doubled and falls, what was answered stands, what was sure is carried out just so, and in a calm all comes to its end.
func TestP16_10Floor(t *testing.T) {
	count := map[string]int{}
	for seed := range int64(100) {
		f := chance{rand.New(rand.NewSource(seed))}.floor(t)
		for range 3 {
			for range 1500 {
				f.step()
			}
			f.calm()
			f.holds()
			if t.Failed() {
				t.Fatalf("seed %d", seed)
			}
		}
		for what, n := range f.count {
			count[what] += n
		}
	}
	for what, least := range map[string]int{"falls": 200, "acts": 2000, "sure": 100, "fences": 20} {
		if count[what] < least {
			t.Errorf("%s: %d only", what, count[what])
		}
	}
}

// Who asks for q and is told so while its lease runs answers q writes of one as sure, without a word from anybody, and then none.
func TestP16_10Rights(t *testing.T) {
	for q := int64(1); q <= api.MaxPending-1; q++ {
		for way := range 2 {
			c := conf()
			c.Counters[0] = api.Counter{Name: "tea", Hi: 130, Start: 65}
			r := newRig(t, c, 0, emptyDisk(t))
			r.word()
			r.issued(ask(api.Right{Way: way, N: q}), api.Loose, 1, false)
			r.entry(r.next())
			a := write([]int64{-1, 1}[way])
			for i := range q {
				r.issued(a, api.Sure, uint64(i)+2, true)
			}
			r.notIssued(a, api.Sure, api.ErrDraftRights)
			r.issued(a, api.Best, uint64(q)+2, false)
		}
	}
}

// The order in which the lease and the rights are looked at is not to be seen: both must be there.
func TestP16_10LeaseAndRights(t *testing.T) {
	for _, x := range []struct {
		word  bool
		ticks int
		lines []int64
		sure  bool
	}{
		{true, 0, []int64{-3}, true},
		{true, 0, []int64{-1, -2}, true},
		{true, 19, []int64{-3}, true},
		{true, 20, []int64{-3}, false},
		{true, 0, []int64{-4}, false},
		{true, 0, []int64{-2, -2}, false},
		{true, 0, []int64{-2, 1}, false},
		{true, 0, []int64{1}, false},
		{false, 0, []int64{-1}, false},
	} {
		for _, takes := range []int{api.Best, api.Sure, api.Loose} {
			r := holding(t)
			r.restart()
			if x.word {
				r.word()
			}
			r.tick(x.ticks)
			told, errno := r.v.Issue(write(x.lines...), takes)
			want, wantErrno := api.Told{Number: 2, Sure: x.sure && takes != api.Loose}, api.OK
			if takes == api.Sure && !x.sure {
				want, wantErrno = api.Told{}, api.ErrDraftRights
			}
			if told != want || errno != wantErrno {
				t.Errorf("%+v, %d: %+v, %d", x, takes, told, errno)
			}
		}
	}
}
