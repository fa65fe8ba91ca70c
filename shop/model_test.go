package shop_test

import (
	"fmt"
	"math/big"
	"math/rand"
	"regexp"
	"slices"
	"strings"
	"testing"

	"till/act"
	"till/api"
	"till/link"
	"till/text"
	"till/world"
)

// of is a till and a counter.
type of struct{ till, counter int }

// model is a shop as the chapter's words have it, over a world of its own. Notes are kept all; an average is worked out of them anew, exactly.
type model struct {
	c     api.Config
	w     *world.World
	sold  map[of]int64
	notes map[of][]int64
}

func newModel(c api.Config) *model {
	w, errno := world.New(c)
	if errno != api.OK {
		panic(errno)
	}
	return &model{c: c, w: w, sold: map[of]int64{}, notes: map[of][]int64{}}
}

// rows are the table's, a word for each place.
var rows = strings.Split(`sale TILL ITEM N+ HOW?
refund TILL ITEM N+ HOW?
count TILL ITEM WHOLE
price TILL PRICE AMOUNT anyhow?
want TILL ITEM N WAY
give TILL ITEM N WAY
pass TILL ITEM N WAY to TILL
tick NODE
crash NODE
restart NODE
deliver PLACE
drop PLACE
double PLACE
close TILL
advise TILL
view TILL
state
nodes
flights
log
report TILL
sum
check`, "\n")

func atMost(digits string, most int64) bool {
	n, ok := new(big.Int).SetString(digits, 10)
	return ok && n.CmpAbs(big.NewInt(most)) <= 0
}

var (
	numberForm = regexp.MustCompile(`^(0|[1-9][0-9]*)$`)
	wholeForm  = regexp.MustCompile(`^(0|-?[1-9][0-9]*)$`)
	amountForm = regexp.MustCompile(`^(0|[1-9][0-9]*|[1-9][0-9]{0,2}('[0-9]{3})+)(\.[0-9]{2})?$`)
)

// cents are the hundredths of an amount's form.
func cents(word string) string {
	if !strings.Contains(word, ".") {
		word += ".00"
	}
	return strings.NewReplacer("'", "", ".", "").Replace(word)
}

// stands tells whether a word may stand at a place.
func stands(place, word string) bool {
	switch place {
	case "TILL", "PLACE":
		return numberForm.MatchString(word) && atMost(word, 1<<40)
	case "NODE":
		return word == "server" || stands("TILL", word)
	case "N":
		return stands("TILL", word) && word != "0"
	case "WHOLE":
		return wholeForm.MatchString(word) && atMost(word, 1<<53)
	case "AMOUNT":
		return amountForm.MatchString(word) && atMost(cents(word), 1<<40)
	case "HOW":
		return word == "loose" || word == "best" || word == "sure"
	case "WAY":
		return word == "down" || word == "up"
	case "ITEM", "PRICE":
		return true
	}
	return word == place
}

// forms are all rows that a row stands for: what may be left out is there or not, and items any number of times.
func forms(row string) (out [][]string) {
	places := strings.Fields(row)
	last := places[len(places)-1]
	if strings.HasSuffix(last, "?") {
		short := strings.Join(places[:len(places)-1], " ")
		return append(forms(short), forms(short+" "+strings.TrimSuffix(last, "?"))...)
	}
	many := slices.Index(places, "N+")
	if many < 0 {
		return [][]string{places}
	}
	for n := range 15 {
		form := append([]string(nil), places[:many]...)
		form = append(form, "N")
		for range n {
			form = append(form, "ITEM", "N")
		}
		out = append(out, append(form, places[many+1:]...))
	}
	return out
}

// read finds the row of words; it is at most one.
func read(words []string) (places []string) {
	for _, row := range rows {
		if name, _, _ := strings.Cut(row, " "); name != words[0] {
			continue
		}
		for _, form := range forms(row) {
			fits := len(form) == len(words)
			for i := 0; fits && i < len(form); i++ {
				fits = stands(form[i], words[i])
			}
			if fits && places != nil {
				panic("two rows")
			}
			if fits {
				places = form
			}
		}
	}
	return places
}

func number(word string) int {
	n, ok := new(big.Int).SetString(word, 10)
	if !ok || !n.IsInt64() {
		panic(word)
	}
	return int(n.Int64())
}

func (m *model) item(word string) int {
	return slices.IndexFunc(m.c.Counters, func(c api.Counter) bool { return text.Fold(c.Name) == text.Fold(word) })
}

func (m *model) price(word string) int {
	return slices.IndexFunc(m.c.Prices, func(p api.Price) bool { return text.Fold(p.Name) == text.Fold(word) })
}

func (m *model) named(place, word string) bool {
	switch place {
	case "TILL":
		return number(word) < m.c.Tills
	case "NODE":
		return word == "server" || number(word) < m.c.Tills
	case "ITEM":
		return m.item(word) >= 0
	case "PRICE":
		return m.price(word) >= 0
	}
	return true
}

// say is what Say must answer to a line of these words.
func (m *model) say(words []string) ([]string, api.Errno) {
	if len(words) > 32 {
		return nil, api.ErrTextLine
	}
	if len(words) == 0 {
		return nil, api.OK
	}
	places := read(words)
	if places == nil {
		return nil, api.ErrShopLine
	}
	for i, place := range places {
		if !m.named(place, words[i]) {
			return nil, api.ErrShopName
		}
	}
	if len(words) == 1 {
		return m.tell(words[0]), api.OK
	}
	switch words[0] {
	case "tick", "crash", "restart":
		node := m.c.Tills
		if words[1] != "server" {
			node = number(words[1])
		}
		return m.step(api.Event{Kind: map[string]int{"tick": api.EventTick, "crash": api.EventCrash, "restart": api.EventRestart}[words[0]], Node: node})
	case "deliver", "drop", "double":
		return m.step(api.Event{Kind: map[string]int{"deliver": api.EventDeliver, "drop": api.EventDrop, "double": api.EventDouble}[words[0]], Index: number(words[1])})
	case "close", "advise", "view", "report":
		return m.ofTill(words[0], number(words[1])), api.OK
	case "count", "price":
		return m.mend(words)
	}
	return m.trade(words)
}

func (m *model) step(e api.Event) ([]string, api.Errno) {
	told, errno := m.w.Step(e)
	if errno != api.OK || told.Number == 0 {
		return nil, errno
	}
	line := fmt.Sprintf("act %d %d", e.Node, told.Number)
	if e.Act.Kind != api.ActWrite {
		return []string{line}, errno
	}
	for _, x := range e.Act.Lines {
		m.sold[of{e.Node, x.Counter}] += max(-x.Change, 0)
	}
	return []string{line + map[bool]string{true: " sure", false: " tentative"}[told.Sure]}, errno
}

// trade is a sale, a refund, or about rights.
func (m *model) trade(words []string) ([]string, api.Errno) {
	till := number(words[1])
	kinds := map[string]int{"want": api.ActAsk, "give": api.ActGive, "pass": api.ActPass}
	if kind := kinds[words[0]]; kind > 0 {
		a := api.Act{Kind: kind, Right: api.Right{Counter: m.item(words[2]), N: int64(number(words[3])), Way: map[string]int{"down": api.Down, "up": api.Up}[words[4]]}}
		if kind == api.ActPass {
			a.To = number(words[6])
		}
		return m.step(do(till, a, api.Loose))
	}
	a, takes := api.Act{Kind: api.ActWrite}, api.Best
	for i := 2; i < len(words); i += 2 {
		if i+1 == len(words) {
			takes = map[string]int{"loose": api.Loose, "best": api.Best, "sure": api.Sure}[words[i]]
			break
		}
		n := int64(number(words[i+1]))
		if words[0] == "sale" {
			n = -n
		}
		a.Lines = append(a.Lines, api.Line{Counter: m.item(words[i]), Change: n})
	}
	return m.step(do(till, a, takes))
}

// mend is a count or a price.
func (m *model) mend(words []string) ([]string, api.Errno) {
	till := number(words[1])
	view := m.w.View(till)
	if words[0] == "count" {
		item := m.item(words[2])
		value := view.Pools[item].Value
		change := int64(number(words[3])) - value
		if change == 0 {
			return []string{"same"}, api.OK
		}
		return m.step(do(till, counted(item, change, value), api.Loose))
	}
	price, merge := m.price(words[2]), api.MergeNone
	if len(words) == 5 {
		merge = api.MergeForce
	}
	return m.step(do(till, priced(price, int64(number(cents(words[3]))), view.Prices[price].Version, merge), api.Loose))
}

// average is that of a row of notes, as an exact number.
func average(notes []int64) *big.Rat {
	a := new(big.Rat)
	for i, n := range notes {
		d := new(big.Rat).Sub(new(big.Rat).SetInt64(n), a)
		if i > 0 {
			d.Mul(d, big.NewRat(1, 4))
		}
		a.Add(a, d)
	}
	return a
}

// advice is the least n from 0 on with which have + n is not below the average.
func advice(notes []int64, have int64) int64 {
	gap := new(big.Rat).Sub(average(notes), new(big.Rat).SetInt64(have))
	if len(notes) == 0 || gap.Sign() <= 0 {
		return 0
	}
	n := new(big.Int).Add(gap.Num(), gap.Denom())
	n.Sub(n, big.NewInt(1)).Quo(n, gap.Denom())
	if n.Cmp(big.NewInt(api.MaxAmount)) > 0 {
		return api.MaxAmount
	}
	return n.Int64()
}

// available is what a till holds of a counter downward by its base, less what its pending acts need.
func (m *model) available(till, counter int) int64 {
	have := m.w.Base(till).Pools[counter].Held[till][api.Down]
	for _, a := range m.w.Pending(till) {
		for _, x := range a.Lines {
			if a.Sure && x.Counter == counter {
				have -= max(-x.Change, 0)
			}
		}
		if (a.Kind == api.ActGive || a.Kind == api.ActPass) && a.Right.Counter == counter && a.Right.Way == api.Down {
			have -= a.Right.N
		}
		for _, x := range a.Rights {
			if x.Counter == counter && x.Way == api.Down {
				have -= x.N
			}
		}
	}
	return have
}

func (m *model) ofTill(command string, till int) (out []string) {
	switch command {
	case "close":
		for counter := range m.c.Counters {
			at := of{till, counter}
			m.notes[at] = append(m.notes[at], m.sold[at])
			m.sold[at] = 0
		}
	case "advise":
		for i, c := range m.c.Counters {
			out = append(out, fmt.Sprintf("%s %d", c.Name, advice(m.notes[of{till, i}], m.available(till, i))))
		}
	case "view":
		return m.stock(m.w.View(till), till, till)
	case "report":
		for _, e := range m.w.Taken(till) {
			if e.Act.Kind == api.ActWrite && e.Act.Till == till {
				line := fmt.Sprintf("%d %s", e.Act.Number, outcomeNames[e.Outcome])
				for _, x := range e.Made {
					line += fmt.Sprintf(" %s %d", m.c.Counters[x.Counter].Name, x.Change)
				}
				out = append(out, line)
			}
		}
		for _, a := range m.w.Pending(till) {
			if a.Kind == api.ActWrite {
				out = append(out, fmt.Sprintf("%d pending", a.Number))
			}
		}
	}
	return out
}

var (
	kindNames    = []string{api.ActWrite: "write", api.ActAsk: "ask", api.ActGive: "give", api.ActPass: "pass", api.ActYield: "yield"}
	outcomeNames = []string{api.Applied: "applied", api.Merged: "merged", api.Rejected: "rejected", api.Granted: "granted", api.Done: "done"}
)

// stock tells a state, with what the tills from first to last hold.
func (m *model) stock(s api.State, first, last int) (out []string) {
	for i, c := range m.c.Counters {
		var held [2]int64
		for _, h := range s.Pools[i].Held[first : last+1] {
			held[0] += h[0]
			held[1] += h[1]
		}
		p := s.Pools[i]
		out = append(out, fmt.Sprintf("%s %d down %d %d up %d %d", c.Name, p.Value, p.Free[0], held[0], p.Free[1], held[1]))
	}
	for i, c := range m.c.Prices {
		out = append(out, fmt.Sprintf("%s %s %d", c.Name, text.Money(s.Prices[i].Price), s.Prices[i].Version))
	}
	return out
}

func (m *model) tell(command string) (out []string) {
	switch command {
	case "state":
		return m.stock(m.w.State(), 0, m.c.Tills-1)
	case "nodes":
		for n := range m.c.Tills {
			out = append(out, fmt.Sprintf("%d %s %d %d %d", n, upOrDown(m.w.Up(n)), m.w.Life(n), m.w.Base(n).Position, len(m.w.Pending(n))))
		}
		return append(out, fmt.Sprintf("server %s %d", upOrDown(m.w.Up(m.c.Tills)), m.w.Life(m.c.Tills)))
	case "flights":
		for _, f := range m.w.Flights() {
			out = append(out, m.flight(f))
		}
	case "log":
		for i, e := range m.w.Log() {
			if e.Act.Kind == api.ActNone {
				out = append(out, fmt.Sprintf("%d fence %d %d", i+1, e.Fence, e.Gen))
				continue
			}
			out = append(out, fmt.Sprintf("%d %d %d %s %s", i+1, e.Act.Till, e.Act.Number, kindNames[e.Act.Kind], outcomeNames[e.Outcome]))
		}
	case "sum":
		for i, c := range m.c.Counters {
			out = append(out, fmt.Sprintf("%s %d", c.Name, m.w.State().Pools[i].Value-c.Start))
		}
	case "check":
		return []string{"fine"} // whatever the script
	}
	return out
}

func upOrDown(up bool) string { return map[bool]string{true: "up", false: "down"}[up] }

func (m *model) flight(f api.Flight) string {
	to := "server"
	if f.To < m.c.Tills {
		to = fmt.Sprint(f.To)
	}
	frame, ok := link.DecodeFrame(f.Bytes)
	body, errno := act.Read(m.c, frame.Body)
	switch {
	case !ok:
		return to + " none"
	case frame.Seq == 0:
		return to + " word"
	case errno != api.OK:
		panic("a node's body is none")
	}
	return to + " " + []string{act.BodyHello: "hello", act.BodyAct: "act", act.BodyEntry: "entry"}[body.Kind]
}

// chance draws configurations, lines and events.
type chance struct{ *rand.Rand }

// names are such that each has another with its fold.
func names() []string { return []string{"tea", "Café", "MILK-2", "sure", "x.y", "ÀÞ", "7"} }

func (r chance) config() api.Config {
	c := api.Config{Tills: 1 + r.Intn(4), Lease: 1 + r.Intn(90), Beat: 1 + r.Intn(5), Window: 1 + r.Intn(4), Cap: 1 + r.Intn(6), Flight: 1 << r.Intn(8)}
	c.Watch = c.Beat + 4 + r.Intn(6)
	order := r.Perm(len(names()))
	for _, i := range order[:1+r.Intn(3)] {
		x := api.Counter{Name: names()[i], Lo: -r.Int63n(9), Hi: r.Int63n(40)}
		x.Start = x.Lo + r.Int63n(x.Hi-x.Lo+1)
		c.Counters = append(c.Counters, x)
	}
	for _, i := range order[:r.Intn(3)] {
		c.Prices = append(c.Prices, api.Price{Name: names()[i], Start: r.Int63n(api.MaxAmount + 1)})
	}
	return c
}

func (r chance) of(list ...string) string { return list[r.Intn(len(list))] }

// word draws one for a place; mostly it may stand there.
func (r chance) word(c api.Config, place string) string {
	if r.Intn(90) == 0 {
		return r.of("", "0", "1", "9", "01", "-1", "server", "sure", "tea", "down", "to", "anyhow", "x y", `"`, `\`, "1.50", "1099511627777", "9007199254740993", "É")
	}
	switch place {
	case "TILL":
		return fmt.Sprint(r.Intn(c.Tills + r.Intn(20)/19))
	case "NODE":
		return r.of("server", r.word(c, "TILL"))
	case "PLACE":
		return fmt.Sprint(r.Intn(1 + r.Intn(6)))
	case "N":
		return fmt.Sprint(1 + r.Intn(1+r.Intn(5)))
	case "WHOLE":
		return fmt.Sprint(r.Intn(40) - 9)
	case "AMOUNT":
		return r.of("0", "0.05", "7", "1'234.50", "1234.50", "10'995'116'277.76")
	case "HOW":
		return r.of("loose", "best", "sure")
	case "WAY":
		return r.of("down", "down", "up")
	case "ITEM":
		return r.name(c.Counters[r.Intn(len(c.Counters))].Name)
	case "PRICE":
		if len(c.Prices) == 0 {
			return r.of(names()...)
		}
		return r.name(c.Prices[r.Intn(len(c.Prices))].Name)
	}
	return place
}

func (r chance) name(name string) string {
	return r.of(name, name, name, strings.ToUpper(name), strings.ToLower(name), name+"x")
}

// words draws a line; weights let a till's life go on.
func (r chance) words(c api.Config) []string {
	row := rows[r.Intn(len(rows))]
	switch k := r.Intn(100); {
	case k < 28:
		row = "deliver PLACE"
	case k < 50:
		row = "tick NODE"
	case k < 55:
		row = "restart NODE"
	case k < 65:
		row = r.of(rows[0], rows[0], rows[1], rows[2], rows[3])
	case k < 73:
		row = r.of(rows[4], rows[4], rows[5], rows[6])
	}
	if strings.HasPrefix(row, "crash") && r.Intn(2) == 0 {
		row = "state"
	}
	all := forms(row)
	form := all[0]
	if n := len(all); n > 1 {
		form = all[[]int{0, 0, n / 2, n / 2, 1 % n, (n/2 + 1) % n, r.Intn(n)}[r.Intn(7)]]
	}
	var words []string
	for _, place := range form {
		words = append(words, r.word(c, place))
	}
	switch r.Intn(150) {
	case 0:
		words = words[:r.Intn(len(words)+1)]
	case 1:
		words = append(words, r.word(c, r.of("TILL", "ITEM", "N", "HOW")))
	case 2:
		words = slices.Insert(words, r.Intn(len(words)+1), r.word(c, r.of("TILL", "ITEM", "N", "HOW")))
	}
	return words
}

// line lays words out as a line: with any blanks, some of the words quoted.
func (r chance) line(words []string) string {
	line := r.of("", " ", "\t ")
	for i, word := range words {
		if i > 0 {
			line += r.of(" ", " ", "  ", "\t")
		}
		if word == "" || strings.ContainsAny(word, " \"\\") || r.Intn(9) == 0 {
			word = `"` + strings.NewReplacer(`\`, `\\`, `"`, `\"`).Replace(word) + `"`
		}
		line += word
	}
	return line + r.of("", "", " ")
}

// event draws one that no line can tell.
func (r chance) event(c api.Config) api.Event {
	e := api.Event{Node: r.Intn(c.Tills + 1), Index: r.Intn(3)}
	for range r.Intn(5) {
		e.Picks = append(e.Picks, r.Intn(80)-10)
	}
	if r.Intn(3) == 0 {
		e.Picks = []int{-1, -1, -1} // all is left
	}
	switch k := r.Intn(20); {
	case k < 3:
		e.Kind, e.Bytes = api.EventInject, []byte(show(e.Picks))
	case k < 4:
		e.Kind = api.EventCrash
		return e
	case k < 12:
		e.Kind, e.Takes, e.Act = api.EventDo, r.Intn(4), r.act(c)
	case k < 16:
		e.Kind = api.EventDeliver
	case k < 17:
		e.Kind = api.EventTick
	case k < 19:
		e.Kind = api.EventRestart
	default:
		e.Kind, e.Node, e.Index = r.Intn(12)-1, r.Intn(9)-2, r.Intn(500)-2
	}
	if r.Intn(2) == 0 {
		e.Off = r.Intn(4)
	}
	return e
}

// act draws a write that no line makes.
func (r chance) act(c api.Config) api.Act {
	lines := func() (out []api.Line) {
		for range r.Intn(3) {
			out = append(out, api.Line{Counter: r.Intn(len(c.Counters)), Change: r.Int63n(9) - 4})
		}
		return out
	}
	a := api.Act{Kind: api.ActWrite, Lines: lines(), Merge: api.Merge{Kind: r.Intn(4)}}
	if a.Merge.Kind == api.MergeOther {
		a.Merge.Other = lines()
	}
	if r.Intn(2) == 0 {
		a.Guards = []api.Guard{{Kind: api.GuardLeast + r.Intn(3), What: r.Intn(len(c.Counters)), N: r.Int63n(20)}}
	}
	for price := range c.Prices {
		if r.Intn(2) == 0 {
			a.Sets = append(a.Sets, api.Set{Price: price, Version: -1, N: r.Int63n(1000)})
		}
	}
	return a
}

// both is a shop and the model of it.
type both struct {
	*rig
	chance
	m   *model
	met map[string]int
}

func (b *both) holds(what string, got []string, errno api.Errno, want []string, wanted api.Errno) {
	b.t.Helper()
	if errno != wanted || !slices.Equal(got, want) || errno != api.OK && got != nil {
		b.t.Fatalf("%q: %q, %d\nwant %q, %d", what, got, errno, want, wanted)
	}
	b.met[fmt.Sprint(wanted)]++
	for _, line := range want {
		b.met[line[strings.LastIndexByte(line, ' ')+1:]]++
	}
}

func (b *both) say(words ...string) {
	b.t.Helper()
	line := b.line(words)
	got, errno := b.Say(line)
	want, wanted := b.m.say(words)
	b.holds(line, got, errno, want, wanted)
	if len(words) > 0 && errno == api.OK {
		b.met[words[0]+" can be"]++
	} else if len(words) > 0 {
		b.met[words[0]+" can't be"]++
	}
}

func (b *both) step(e api.Event) {
	b.t.Helper()
	got, errno := b.Step(e)
	want, wanted := b.m.step(e)
	b.holds(show(e), got, errno, want, wanted)
}

// calm lets all that is up talk for a while.
func (b *both) calm() {
	b.t.Helper()
	for range 6 {
		for range b.m.w.Len() {
			b.say("deliver", "0")
		}
		b.say("tick", "server")
		for till := range b.c.Tills {
			b.say("tick", fmt.Sprint(till))
		}
	}
}

// Any row of lines and events, held against the model.
func TestP20_3Drawn(t *testing.T) {
	t.Parallel()
	met := map[string]int{}
	for seed := range int64(120) {
		draw := chance{rand.New(rand.NewSource(seed))}
		c := draw.config()
		b := &both{newRig(t, c), draw, newModel(c), met}
		for range 400 {
			switch k := draw.Intn(120); {
			case k < 2:
				b.calm()
			case k < 12:
				b.step(draw.event(c))
			default:
				b.say(draw.words(c)...)
			}
		}
		b.tellsLike(b.m.w)
		if t.Failed() {
			t.Fatalf("seed %d", seed)
		}
	}
	for _, row := range rows {
		if name := strings.Fields(row)[0]; met[name+" can be"] < 20 || met[name+" can't be"] < 2 {
			t.Errorf("%s: %d could be, %d could not", name, met[name+" can be"], met[name+" can't be"])
		}
	}
	for what, least := range map[string]int{
		"applied": 500, "merged": 100, "rejected": 300, "granted": 500, "done": 50, "pending": 300, "sure": 20, "tentative": 1000, "same": 10, "fine": 100,
		"word": 200, "hello": 50, "act": 100, "entry": 100, "none": 50,
		fmt.Sprint(api.ErrShopLine): 300, fmt.Sprint(api.ErrShopName): 300, fmt.Sprint(api.ErrWorldEvent): 500, fmt.Sprint(api.ErrDraftRights): 100, fmt.Sprint(api.ErrActLine): 50,
	} {
		if met[what] < least {
			t.Errorf("%s was met %d times only", what, met[what])
		}
	}
}
