package shop

import (
	"strings"
	"testing"

	"till/api"
	"till/link"
)

// What no script can bring about is set from inside.

func inside(t *testing.T) *Shop {
	t.Helper()
	s, errno := New(api.Config{Tills: 2, Counters: []api.Counter{{Name: "tea", Hi: 10, Start: 4}}, Lease: 20, Watch: 30, Beat: 4, Window: 2, Cap: 4, Flight: 50})
	if errno != api.OK {
		t.Fatal(errno)
	}
	return s
}

// liar tells what its world does, but for one state.
type liar struct {
	teller
	about string
	till  int
}

func (l liar) lies(about string, till int, s api.State) api.State {
	if about == l.about && till == l.till {
		s.Pools[0].Value--
	}
	return s
}

func (l liar) State() api.State { return l.lies("state", 0, l.teller.State()) }

func (l liar) Base(till int) api.State { return l.lies("base", till, l.teller.Base(till)) }

func (l liar) View(till int) api.State { return l.lies("view", till, l.teller.View(till)) }

// A state, a base or a view that is not right is told, whosever it is.
func TestP20_3CheckWrong(t *testing.T) {
	for _, x := range []struct {
		about string
		till  int
		want  string
	}{{"nothing", 0, "fine"}, {"state", 0, "wrong"}, {"base", 0, "wrong"}, {"base", 1, "wrong"}, {"view", 0, "wrong"}, {"view", 1, "wrong"}, {"view", 2, "fine"}} {
		s := inside(t)
		s.teller = liar{s.teller, x.about, x.till}
		if got, errno := s.Say("check"); errno != api.OK || strings.Join(got, "/") != x.want {
			t.Errorf("%+v: %q, %d", x, got, errno)
		}
	}
}

// Frames whose bodies are none of act's can't be put on the net by hand.
func TestP20_3FlightsOfNoBody(t *testing.T) {
	s := inside(t)
	for _, x := range []struct {
		frame api.Frame
		want  string
	}{
		{api.Frame{To: 2, Mine: 1}, "word"},
		{api.Frame{To: 2, Mine: 1, Seq: 1}, "none"},
		{api.Frame{To: 2, Mine: 1, Seq: 1, Body: []byte("zz")}, "none"},
		{api.Frame{To: 2, Mine: 1, Seq: 1, Body: []byte{1, 7}}, "hello"},
		{api.Frame{To: 2, Mine: 1, Seq: 1, Body: []byte{1, 7, 7}}, "none"},
		{api.Frame{To: 2, Mine: 1, Seq: 1, Body: []byte{2, 2, 0, 1, 0, 0, 3}}, "act"},
		{api.Frame{To: 2, Mine: 1, Seq: 1, Body: []byte{2, 2, 0, 1, 1, 0, 3}}, "none"}, // there is no such counter
		{api.Frame{To: 2, Mine: 1, Seq: 1, Body: []byte{3, 8, 0, 1, 2}}, "entry"},
	} {
		if got := s.messageKind(link.EncodeFrame(x.frame)); got != x.want {
			t.Errorf("%+v: %q", x.frame, got)
		}
	}
	if got := s.messageKind(nil); got != "none" {
		t.Errorf("of no bytes: %q", got)
	}
}
