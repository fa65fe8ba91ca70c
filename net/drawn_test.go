package net_test

import (
	"math/rand"
	"strconv"
	"strings"
	"testing"

	"till/net"
)

// told is one message that was ever on its way: it keeps its place, also when it is gone.
type told struct {
	text string
	gone bool
}

// model keeps every message that ever stood in a row, in the order in which they came.
type model struct {
	room int
	all  []*told
	lost uint64
}

func (m *model) left() []*told {
	var left []*told
	for _, x := range m.all {
		if !x.gone {
			left = append(left, x)
		}
	}
	return left
}

func (m *model) at(i int) *told {
	for _, x := range m.left() {
		if i == 0 {
			return x
		}
		i--
	}
	return nil
}

func (m *model) put(text string) bool {
	if len(m.left()) == m.room {
		return false
	}
	m.all = append(m.all, &told{text: text})
	return true
}

func (m *model) send(text string) bool {
	ok := m.put(text)
	if !ok {
		m.lost++
	}
	return ok
}

func (m *model) out(i int) (string, bool) {
	x := m.at(i)
	if x == nil {
		return "", false
	}
	x.gone = true
	return x.text, true
}

func (m *model) double(i int) bool {
	x := m.at(i)
	return x != nil && m.put(x.text)
}

// drawnCall makes one call on both, and tells what they answered.
func drawnCall(draw *rand.Rand, n *net.Net, m *model, number int) (have, want string) {
	i := draw.Intn(m.room+3) - 1
	switch draw.Intn(6) {
	case 0, 1, 2:
		to, text := draw.Intn(9)-1, strings.Repeat("x", draw.Intn(3))+strconv.Itoa(number)
		return strconv.FormatBool(n.Send(to, []byte(text))), strconv.FormatBool(m.send(strconv.Itoa(to) + text))
	case 3:
		f, ok := n.Take(i)
		have = strconv.FormatBool(ok)
		if ok {
			have = said(f) + have
		}
		text, ok := m.out(i)
		return have, text + strconv.FormatBool(ok)
	case 4:
		_, ok := m.out(i)
		return strconv.FormatBool(n.Drop(i)), strconv.FormatBool(ok)
	default:
		return strconv.FormatBool(n.Double(i)), strconv.FormatBool(m.double(i))
	}
}

func TestP6_7_DrawnCalls(t *testing.T) {
	for seed := range int64(300) {
		draw := rand.New(rand.NewSource(seed))
		m := &model{room: 1 + draw.Intn(7)}
		n := made(t, m.room)
		for number := range 120 {
			have, want := drawnCall(draw, n, m, number)
			if have != want {
				t.Fatalf("seed %d, call %d: %q, want %q", seed, number, have, want)
			}
			var row []string
			for _, x := range m.left() {
				row = append(row, x.text)
			}
			holds(t, n, strings.Join(row, " "))
			lost(t, n, m.lost)
			if t.Failed() {
				t.Fatalf("seed %d, call %d", seed, number)
			}
		}
	}
}
