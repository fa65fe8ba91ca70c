package link_test

import (
	"bytes"
	"fmt"
	"math/rand"
	"slices"
	"testing"

	"till/api"
	"till/link"
)

// model is a link as the chapter's words have it, line by line; it holds all that was ever handed in, so that it need not let go of anything.
type model struct {
	me, other    int
	life, known  uint64
	window, most int
	bodies       []string // of this session: number n stands at n-1
	acked        int      // as many of them have left the row
	gone         uint64
	expects      uint64
	left, gap    int
	ack, asked   bool
	paced        bool
}

func modelOf(me, other int, life uint64, window, most int) *model {
	return &model{me: me, other: other, life: life, window: window, most: most, expects: 1, gap: 1, paced: true}
}

func (m *model) send(body string) api.Errno {
	if len(body) > api.MaxBody {
		return api.ErrLinkLong
	}
	if m.acked == len(m.bodies) {
		m.left, m.gap = 0, 1
	}
	m.bodies = append(m.bodies, body)
	return api.OK
}

func (m *model) hear(f api.Frame) (h link.Heard) {
	if len(link.EncodeFrame(f)) == 0 || f.From != m.other || f.To != m.me || f.Mine < m.known {
		return h
	}
	if f.Mine > m.known {
		m.known, m.bodies, m.acked, m.gone, m.expects, m.ack = f.Mine, nil, 0, 0, 1, false
		m.left, m.gap = 0, 1
		h.Anew = true
	}
	if f.Yours != m.life {
		m.paced = true
		return h
	}
	h.Right, m.paced = true, false
	if f.Ack <= m.gone && int(f.Ack) > m.acked {
		m.acked = int(f.Ack)
	}
	if f.Seq != 0 {
		m.ack = true
	}
	if f.Seq == m.expects {
		h.Handed, h.Body = true, f.Body
		m.expects++
	}
	return h
}

func (m *model) paceTicks() bool {
	if m.left > 1 {
		m.left--
		return false
	}
	m.left, m.gap = m.gap, min(2*m.gap, m.most)
	return true
}

func (m *model) tick() []api.Frame {
	time := false
	if m.acked < len(m.bodies) || m.paced {
		time = m.paceTicks()
	}
	frame := api.Frame{From: m.me, To: m.other, Mine: m.life, Yours: m.known, Ack: m.expects - 1}
	var out []api.Frame
	for i := m.acked; i < len(m.bodies) && i < m.acked+m.window && m.known != 0; i++ {
		if number := uint64(i) + 1; time || number > m.gone {
			body := frame
			body.Seq, body.Body = number, []byte(m.bodies[i])
			out = append(out, body)
			m.gone = max(m.gone, number)
		}
	}
	if len(out) == 0 && (m.ack || m.asked || m.paced && time) {
		out = []api.Frame{frame}
	}
	if len(out) > 0 {
		m.ack, m.asked = false, false
	}
	return out
}

// chance draws what may come to a link, what is near to being right often.
type chance struct{ *rand.Rand }

func (r chance) body() []byte {
	b := make([]byte, []int{0, 1, 2, 3, 40, 200, api.MaxBody, api.MaxBody + 1}[r.Intn(8)])
	r.Read(b)
	return b
}

// near draws a number next to n, or now and then any.
func (r chance) near(n uint64) uint64 {
	if r.Intn(30) == 0 {
		return []uint64{0, 1, api.MaxNumber, api.MaxNumber + 1, 1 << 63}[r.Intn(5)]
	}
	if r.Intn(2) == 0 {
		return n
	}
	return n + uint64(r.Intn(4)) - uint64(min(n, 2))
}

func (r chance) node(n int) int {
	if r.Intn(20) == 0 {
		return r.Intn(12) - 1
	}
	return n
}

func (r chance) frame(m *model) api.Frame {
	f := api.Frame{From: r.node(m.other), To: r.node(m.me), Mine: max(m.known, 1), Yours: m.life}
	if r.Intn(8) == 0 {
		f.Mine = r.near(m.known)
	}
	if r.Intn(6) == 0 {
		f.Yours = r.near(m.life)
	}
	f.Ack = r.near(m.gone)
	if r.Intn(4) == 0 {
		f.Ack = uint64(r.Intn(int(m.gone) + 1))
	}
	if r.Intn(2) == 0 {
		f.Seq, f.Body = r.near(m.expects), r.body()
	}
	return f
}

// pair is a link with the model of it.
type pair struct {
	link  *link.Link
	model *model
}

func (r chance) pair() pair {
	me, life := r.Intn(9), 1+uint64(r.Intn(4))
	other := (me + 1 + r.Intn(8)) % 9
	window, most := 1+r.Intn(4), 1+r.Intn(9)
	if r.Intn(4) == 0 {
		window, most = 1+r.Intn(api.MaxWindow), 1+r.Intn(api.MaxCap)
	}
	return pair{link.New(me, other, life, window, most), modelOf(me, other, life, window, most)}
}

// step does one drawn thing to both, and tells where they part.
func (r chance) step(p pair) string {
	switch r.Intn(8) {
	case 0, 1:
		body := r.body()
		if g, want := p.link.Send(body), p.model.send(string(body)); g != want {
			return fmt.Sprintf("Send of %d bytes: %d, want %d", len(body), g, want)
		}
	case 2:
		if r.Intn(3) == 0 {
			p.link.Owe()
			p.model.asked = true
		}
	case 3, 4, 5:
		f := r.frame(p.model)
		if g, want := p.link.Hear(f), p.model.hear(f); told(g) != told(want) {
			return fmt.Sprintf("Hear(%+v): %s, want %s", f, told(g), told(want))
		}
	default:
		return p.tick()
	}
	return p.looks()
}

func (p pair) tick() string {
	got := p.link.Tick()
	var want [][]byte
	for _, f := range p.model.tick() {
		want = append(want, laid(byte(f.From), byte(f.To), f.Mine, f.Yours, f.Seq, f.Ack, f.Body))
	}
	if !slices.EqualFunc(got, want, bytes.Equal) {
		return fmt.Sprintf("Tick: %x, want %x", got, want)
	}
	return p.looks()
}

func (p pair) looks() string {
	length := len(p.model.bodies) - p.model.acked
	if p.link.Known() != (p.model.known != 0) || p.link.Life() != p.model.known || p.link.Len() != length {
		return fmt.Sprintf("Known %v, Life %d, Len %d; want life %d, Len %d", p.link.Known(), p.link.Life(), p.link.Len(), p.model.known, length)
	}
	return ""
}

// Of P14.2 to P14.6, and that several links, one beside the other, have nothing in common (P14.9).
func TestP14_2To6Drawn(t *testing.T) {
	for seed := range int64(400) {
		r := chance{rand.New(rand.NewSource(seed))}
		var pairs []pair
		for range 1 + r.Intn(3) {
			pairs = append(pairs, r.pair())
		}
		for i := range 300 {
			if fault := r.step(pairs[r.Intn(len(pairs))]); fault != "" {
				t.Fatalf("seed %d, step %d: %s", seed, i, fault)
			}
		}
	}
}
