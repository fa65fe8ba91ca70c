package shop

import (
	"strings"

	"till/act"
	"till/api"
	"till/book"
	"till/link"
	"till/report"
	"till/share"
	"till/text"
)

// server is what lines call the server.
const server = "server"

var (
	kinds    = [...]string{api.ActWrite: "write", api.ActAsk: "ask", api.ActGive: "give", api.ActPass: "pass", api.ActYield: "yield"}
	outcomes = [...]string{api.OutcomeNone: "pending", api.Applied: "applied", api.Merged: "merged", api.Rejected: "rejected", api.Granted: "granted", api.Done: "done"}
	bodies   = [...]string{act.BodyNone: "none", act.BodyHello: "hello", act.BodyAct: "act", act.BodyEntry: "entry"}
)

// joined makes a line of words.
func joined(words ...string) string { return strings.Join(words, " ") }

// digits tells a number. (None that a shop tells is above the greatest int64.)
func digits[T int | int64 | uint64](n T) string { return text.Digits(int64(n)) }

func (s *Shop) itemName(counter int) string { return s.config.Counters[counter].Name }

func (s *Shop) nodeName(node int) string {
	if node == s.config.Tills {
		return server
	}
	return digits(node)
}

// advise tells what a till should hold more of to sell for sure what it sells in a day.
func (s *Shop) advise(r *reader) ([]string, api.Errno) {
	till := r.till()
	r.end()
	have := make([]int64, len(s.config.Counters))
	for _, x := range share.Available(s.Base(till), s.Pending(till), till) {
		if x.Way == api.Down {
			have[x.Counter] = x.N
		}
	}
	var out []string
	for i, x := range s.sellers[till] {
		out = append(out, joined(s.itemName(i), digits(x.Advice(have[i]))))
	}
	return out, api.OK
}

func (s *Shop) view(r *reader) ([]string, api.Errno) {
	till := r.till()
	r.end()
	return s.stock(s.View(till), till), api.OK
}

func (s *Shop) state(r *reader) ([]string, api.Errno) {
	r.end()
	var tills []int
	for till := range s.config.Tills {
		tills = append(tills, till)
	}
	return s.stock(s.State(), tills...), api.OK
}

// stock tells the counters and prices of a state, with what some tills hold together.
func (s *Shop) stock(state api.State, tills ...int) []string {
	var out []string
	for i, p := range state.Pools {
		down := joined("down", digits(p.Free[api.Down]), digits(held(p, api.Down, tills...)))
		up := joined("up", digits(p.Free[api.Up]), digits(held(p, api.Up, tills...)))
		out = append(out, joined(s.itemName(i), digits(p.Value), down, up))
	}
	for i, x := range state.Prices {
		out = append(out, joined(s.config.Prices[i].Name, text.Money(x.Price), digits(x.Version)))
	}
	return out
}

func held(p api.Pool, way int, tills ...int) int64 {
	n := int64(0)
	for _, till := range tills {
		n += p.Held[till][way]
	}
	return n
}

func (s *Shop) nodes(r *reader) ([]string, api.Errno) {
	r.end()
	var out []string
	for node := range s.config.Tills + 1 {
		words := []string{s.nodeName(node), standing(s.world.Up(node)), digits(s.world.Life(node))}
		if node < s.config.Tills {
			words = append(words, digits(s.Base(node).Position), digits(len(s.Pending(node))))
		}
		out = append(out, joined(words...))
	}
	return out, api.OK
}

func standing(up bool) string {
	if up {
		return "up"
	}
	return "down"
}

func (s *Shop) flights(r *reader) ([]string, api.Errno) {
	r.end()
	var out []string
	for _, m := range s.world.Flights() {
		out = append(out, joined(s.nodeName(m.To), s.messageKind(m.Bytes)))
	}
	return out, api.OK
}

// messageKind tells what bytes on their way are. A body that can't be read is of no kind.
func (s *Shop) messageKind(b []byte) string {
	f, ok := link.DecodeFrame(b)
	if ok && f.Seq == 0 {
		return "word"
	}
	body, _ := act.Read(s.config, f.Body)
	return bodies[body.Kind]
}

func (s *Shop) log(r *reader) ([]string, api.Errno) {
	r.end()
	var out []string
	for _, e := range s.Log() {
		out = append(out, joined(digits(e.Position), entryWords(e)))
	}
	return out, api.OK
}

func entryWords(e api.Entry) string {
	if e.Act.Kind == api.ActNone {
		return joined("fence", digits(e.Fence), digits(e.Gen))
	}
	return joined(digits(e.Act.Till), digits(e.Act.Number), kinds[e.Act.Kind], outcomes[e.Outcome])
}

func (s *Shop) report(r *reader) ([]string, api.Errno) {
	till := r.till()
	r.end()
	var out []string
	for _, x := range report.Of(s.world.Taken(till), s.Pending(till), till) {
		words := []string{digits(x.Number), outcomes[x.Outcome]}
		for _, made := range x.Made {
			words = append(words, s.itemName(made.Counter), digits(made.Change))
		}
		out = append(out, joined(words...))
	}
	return out, api.OK
}

func (s *Shop) sum(r *reader) ([]string, api.Errno) {
	r.end()
	var out []string
	for i, n := range report.Sums(s.config, s.Log()) {
		out = append(out, joined(s.itemName(i), digits(n)))
	}
	return out, api.OK
}

func (s *Shop) check(r *reader) ([]string, api.Errno) {
	r.end()
	fine := book.Right(s.config, s.State())
	for till := range s.config.Tills {
		fine = fine && book.Right(s.config, s.Base(till)) && book.Right(s.config, s.View(till))
	}
	if fine {
		return []string{"fine"}, api.OK
	}
	return []string{"wrong"}, api.OK
}
