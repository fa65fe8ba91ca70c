package link_test

import (
	"fmt"
	"math/rand"
	"slices"
	"testing"

	"till/api"
	"till/link"
)

// lives are a side's own life, and the other's that it knows.
type lives struct{ own, known uint64 }

// side is a node with its link, and what was handed in and up there in each session.
type side struct {
	*link.Link
	me, other    int
	life         uint64
	window, most int
	in, up       map[lives][]string
	told         [][]byte // all frames that ever went out of it
}

func sideOf(me, other, window, most int) *side {
	s := &side{me: me, other: other, window: window, most: most, in: map[lives][]string{}, up: map[lives][]string{}}
	s.restart(1)
	return s
}

func (s *side) restart(by uint64) {
	s.life += by
	s.Link = link.New(s.me, s.other, s.life, s.window, s.most)
}

func (s *side) session() lives { return lives{s.life, s.Life()} }

func (s *side) hand(t *testing.T, body string) {
	t.Helper()
	if e := s.Send([]byte(body)); e != api.OK {
		t.Fatalf("Send(%q): %d", body, e)
	}
	s.in[s.session()] = append(s.in[s.session()], body)
}

// tick tells what goes out, and notes it for later.
func (s *side) tick() [][]byte {
	out := s.Tick()
	s.told = append(s.told, out...)
	return out
}

// hear takes a frame of the other side's, and holds what is handed up against what was handed in there.
func (s *side) hear(t *testing.T, other *side, b []byte) {
	t.Helper()
	f, ok := link.DecodeFrame(b)
	if !ok {
		t.Fatalf("%x is no frame", b)
	}
	former := f.Mine < s.Life() || f.Yours != s.life
	h := s.Hear(f)
	if h.Handed && former {
		t.Fatalf("life %d with %d: %+v hands %q up", s.life, s.Life(), f, h.Body)
	}
	if !h.Handed {
		return
	}
	up := append(s.up[s.session()], string(h.Body))
	s.up[s.session()] = up
	in := other.in[lives{s.Life(), s.life}]
	if len(up) > len(in) || !slices.Equal(up, in[:len(up)]) {
		t.Fatalf("life %d with %d: handed up %q, handed in %q", s.life, s.Life(), up, in)
	}
}

// net is two sides and what is drawn between them.
type net struct {
	chance
	sides [2]*side
	count int
}

func (n *net) other(s *side) *side {
	if s == n.sides[0] {
		return n.sides[1]
	}
	return n.sides[0]
}

func (n *net) send(t *testing.T, s *side) {
	n.count++
	s.hand(t, fmt.Sprint("body ", n.count))
}

// hearSome hands to a side some frames that the other has ever sent: lately, or at any time, in any order, again and again.
func (n *net) hearSome(t *testing.T, s *side) {
	other := n.other(s)
	for range n.Intn(6) {
		if len(other.told) == 0 {
			return
		}
		back := len(other.told)
		if n.Intn(4) > 0 {
			back = min(back, 8)
		}
		s.hear(t, other, other.told[len(other.told)-1-n.Intn(back)])
	}
}

func (n *net) step(t *testing.T) {
	s := n.sides[n.Intn(2)]
	switch n.Intn(12) {
	case 0, 1, 2:
		n.send(t, s)
	case 3, 4, 5:
		s.tick()
	case 6:
		if n.Intn(5) == 0 {
			s.Owe()
		}
	case 7:
		if n.Intn(12) == 0 {
			s.restart(1 + uint64(n.Intn(2)))
		}
	default:
		n.hearSome(t, s)
	}
}

func TestP14_7Drawn(t *testing.T) {
	sessions, up := 0, 0
	for seed := range int64(150) {
		n := &net{chance: chance{rand.New(rand.NewSource(seed))}}
		n.sides = [2]*side{
			sideOf(0, 2, 1+n.Intn(4), 1+n.Intn(5)),
			sideOf(2, 0, 1+n.Intn(4), 1+n.Intn(5)),
		}
		for range 800 {
			n.step(t)
		}
		for _, s := range n.sides {
			for _, bodies := range s.up {
				sessions++
				up += len(bodies)
			}
		}
	}
	if sessions < 500 || up < 5000 { // else the walks have shown little
		t.Errorf("%d bodies were handed up in %d sessions", up, sessions)
	}
}

// Frames of a former life, or for one, hand nothing up, and take nothing off the row.
func TestP14_7FormerLives(t *testing.T) {
	a, b := sideOf(0, 2, 2, 1), sideOf(2, 0, 2, 1)
	meet := func() {
		for range 3 {
			for _, f := range a.tick() {
				b.hear(t, a, f)
			}
			for _, f := range b.tick() {
				a.hear(t, b, f)
			}
		}
	}
	meet()
	a.hand(t, "a in life 1")
	meet()
	b.hand(t, "b in life 1")
	meet()
	if a.Len() != 0 || b.Len() != 0 || len(a.up[lives{1, 1}]) != 1 || len(b.up[lives{1, 1}]) != 1 {
		t.Fatalf("%v, %v", a.up, b.up)
	}
	former := slices.Clone(b.told)
	a.restart(1)
	for _, f := range former { // b's life is known from its former frames, but they are for a's life 1
		a.hear(t, b, f)
	}
	if !a.Known() || len(a.up[lives{2, 1}]) != 0 {
		t.Errorf("life 2 heard frames for life 1: %v", a.up)
	}
	a.hand(t, "a in life 2")
	for _, f := range former {
		a.hear(t, b, f)
	}
	if a.Len() != 1 {
		t.Errorf("acks for life 1 leave %d bodies in the row of life 2", a.Len())
	}
	meet()
	if g := b.up[lives{1, 2}]; !slices.Equal(g, []string{"a in life 2"}) || a.Len() != 0 {
		t.Errorf("handed up: %q", g)
	}
	old := slices.Clone(a.told)
	for _, f := range old {
		b.hear(t, a, f)
	}
	if g := b.up[lives{1, 2}]; len(g) != 1 || b.Life() != 2 {
		t.Errorf("handed up again: %q", g)
	}
}

// know lets two sides find each other's life.
func (n *net) know(t *testing.T) (*side, *side) {
	t.Helper()
	a, b := n.sides[0], n.sides[1]
	for range 4 * api.MaxCap {
		if a.Life() == b.life && b.Life() == a.life {
			return a, b
		}
		n.turn(t, a, b)
	}
	t.Fatalf("lives %d and %d are not known: %d, %d", a.life, b.life, a.Life(), b.Life())
	return nil, nil
}

func (n *net) turn(t *testing.T, one, two *side) {
	t.Helper()
	for _, f := range one.tick() {
		two.hear(t, one, f)
	}
	for _, f := range two.tick() {
		one.hear(t, two, f)
	}
}

// hush lets both sides tick for a while, and loses what goes out: so paces slow down.
func (n *net) hush() {
	for range n.Intn(3 * api.MaxCap) {
		n.sides[n.Intn(2)].tick()
	}
}

func TestP14_8Drawn(t *testing.T) {
	for seed := range int64(400) {
		n := &net{chance: chance{rand.New(rand.NewSource(seed))}}
		window, most := 1+n.Intn(5), 1+n.Intn(9)
		if n.Intn(3) == 0 {
			window, most = 1+n.Intn(api.MaxWindow), 1+n.Intn(api.MaxCap)
		}
		n.sides = [2]*side{sideOf(0, 2, window, most), sideOf(2, 0, window, most)}
		for range n.Intn(200) {
			n.step(t)
		}
		a, b := n.know(t)
		for range n.Intn(60) {
			n.send(t, n.sides[n.Intn(2)])
		}
		if n.Intn(2) == 0 {
			n.hush()
		}
		if n.Intn(2) == 0 {
			a, b = b, a
		}
		longer := max(a.Len(), b.Len())
		for range most + 2 + (longer+window-1)/window {
			n.turn(t, a, b)
		}
		for _, s := range n.sides {
			other := n.other(s)
			up, in := s.up[s.session()], other.in[other.session()]
			if s.Len() != 0 || !slices.Equal(up, in) {
				t.Fatalf("seed %d: window %d, cap %d, %d bodies: %d are left, %d of %d handed up", seed, window, most, longer, s.Len(), len(up), len(in))
			}
		}
	}
}

// The slowest paces that there are: all has gone out once and was lost, and it has just been time.
func TestP14_8SlowestPace(t *testing.T) {
	for _, most := range []int{1, 2, 3, 8, api.MaxCap} {
		for _, window := range []int{1, 2, api.MaxWindow} {
			for length := range 2*window + 2 {
				a, b := sideOf(0, 2, window, most), sideOf(2, 0, window, most)
				n := &net{sides: [2]*side{a, b}}
				n.know(t)
				for range length {
					n.send(t, a)
					n.send(t, b)
				}
				for range 4*api.MaxCap + 1 {
					a.tick()
					b.tick()
				}
				for range most + 2 + (length+window-1)/window {
					n.turn(t, a, b)
				}
				if a.Len() != 0 || b.Len() != 0 || len(a.up[lives{1, 1}]) != length || len(b.up[lives{1, 1}]) != length {
					t.Errorf("cap %d, window %d, %d bodies: %d and %d are left", most, window, length, a.Len(), b.Len())
				}
			}
		}
	}
}
