package shop_test

import (
	"fmt"
	"strings"
	"testing"

	"till/api"
)

// full is a line of each row that can be, and the places of it whose words are looked at: t a till, d a node, p a place, n a number from 1 on, i an item, r a price, w a whole number, a an amount, k a way, h what is taken, y anyhow, o the word to, c the command.
var full = []struct{ line, places string }{
	{"sale 0 tea 1 tea 2 best", "ctininh"},
	{"sale 0 tea 1", "ctin"},
	{"refund 0 tea 1 tea 2 loose", "ctininh"},
	{"refund 1 tea 1", "ctin"},
	{"count 0 tea 5", "ctiw"},
	{"price 0 tea 4.00 anyhow", "ctray"},
	{"price 0 tea 4.00", "ctra"},
	{"want 0 tea 1 down", "ctink"},
	{"give 0 tea 1 up", "ctink"},
	{"pass 0 tea 1 down to 1", "ctinkot"},
	{"tick 0", "cd"},
	{"tick server", "cd"},
	{"crash 0", "cd"},
	{"restart server", "cd"},
	{"deliver 0", "cp"},
	{"drop 0", "cp"},
	{"double 0", "cp"},
	{"close 0", "ct"},
	{"advise 0", "ct"},
	{"view 0", "ct"},
	{"report 0", "ct"},
	{"state", "c"},
	{"nodes", "c"},
	{"flights", "c"},
	{"log", "c"},
	{"sum", "c"},
	{"check", "c"},
}

// noLines are words that make a line none at such a place, noNames those that name nothing.
func noLines(place rune) []string {
	noNumber := []string{`""`, "00", "01", "-1", "-0", "+1", "1.0", "1x", "x", "tea", "0x1", "1e3", "٣", "１", "1_0", "1'000", `" 1"`, "1099511627777", "9007199254740993", "18446744073709551616", strings.Repeat("9", 99)}
	switch place {
	case 'c':
		return []string{"fly", "Sale", "TICK", "sales", "tea", "0", `""`, `"sale "`, "act", "fence", "same", "fine"}
	case 't', 'p':
		return append(noNumber, "server")
	case 'd':
		return append(noNumber, "Server", "servers", "Server", "SERVER")
	case 'n':
		return append(noNumber, "0", "server")
	case 'w':
		return []string{`""`, "-", "-0", "00", "01", "-01", "+1", "1.5", "1'000", "x", `"1 "`, "9007199254740993", "-9007199254740993"}
	case 'a':
		return []string{`""`, "-1", "00", "1.2", "1.234", ".50", "5.", "1'23", "0'000", "1,00", "x", "10995116277.77"}
	case 'k':
		return []string{"left", "Down", "UP", "ups", "0", `""`}
	case 'h':
		return []string{"now", "anyhow", "Sure", "SURE", "tentative", "0", "tea", `""`}
	case 'y':
		return []string{"sure", "best", "Anyhow", "any", "0", `""`}
	case 'o':
		return []string{"TO", "from", "1", `""`}
	}
	return nil
}

func noNames(place rune) []string {
	switch place {
	case 't', 'd':
		return []string{"2", "3", "9", "1099511627776"}
	case 'i', 'r':
		return []string{"milk", "te", "teas", "0", `""`, `"tea "`, `" tea"`, `"te a"`, "téa", "server", "sure", `"\""`}
	}
	return nil
}

// with is a line with another word at a place.
func with(words []string, at int, word string) []string {
	words = append([]string(nil), words...)
	words[at] = word
	return words
}

func join(words []string) string { return strings.Join(words, " ") }

// Each row with a word that may not stand there, one too few, one too many; and each fault of the form comes ahead of each of a name.
func TestP20_3WhatIsNoLine(t *testing.T) {
	r := newRig(t, conf())
	for _, x := range full {
		words := strings.Split(x.line, " ")
		for at, place := range x.places {
			for _, word := range noLines(place) {
				r.refuses(join(with(words, at, word)), api.ErrShopLine)
			}
			for _, word := range noNames(place) {
				unnamed := with(words, at, word)
				r.refuses(join(unnamed), api.ErrShopName)
				for other, kind := range x.places {
					if wrong := noLines(kind); other != at && len(wrong) > 0 {
						r.refuses(join(with(unnamed, other, wrong[len(wrong)-1])), api.ErrShopLine)
					}
				}
				r.refuses(join(unnamed)+" more", api.ErrShopLine)
			}
		}
		r.refuses(x.line+" 1 1", map[bool]api.Errno{true: api.ErrShopName, false: api.ErrShopLine}[x.places == "ctin"]) // one item more, and it is none
		r.refuses(x.line+` ""`, api.ErrShopLine)
		for n := 1; n < len(words); n++ {
			if short := join(words[:n]); !isLine(short) {
				r.refuses(short, api.ErrShopLine)
			}
		}
	}
}

// isLine tells which beginnings of those lines are lines themselves.
func isLine(line string) bool {
	switch line {
	case "sale 0 tea 1", "sale 0 tea 1 tea 2", "refund 0 tea 1", "refund 0 tea 1 tea 2", "refund 1 tea 1", "price 0 tea 4.00":
		return true
	}
	return false
}

func TestP20_3Words(t *testing.T) {
	r := newRig(t, conf())
	for _, line := range []string{`sale 0 tea "1`, `a"b`, `state "a"b`, "state\n", "state\x00", "state\x7f", "\xff", "state \xed\xa0\x80", `"\n"`, strings.Repeat("x ", 33), strings.Repeat(" ", api.MaxLine+1)} {
		r.refuses(line, api.ErrTextLine)
	}
	r.refuses(strings.Repeat("x ", 32), api.ErrShopLine)
	for _, line := range []string{"", " ", "\t", " \t \t", strings.Repeat(" ", api.MaxLine)} {
		r.says(line)
	}
	r.says("  state\t", "tea 6 down 6 0 up 4 0", "tea 3.50 0")
	r.says(`"state"`, "tea 6 down 6 0 up 4 0", "tea 3.50 0")
	r.says("\t\"sale\"  \"0\"\t \"TEA\" \"2\" \"best\" ", "act 0 1 tentative")
	r.says(strings.Repeat(" ", api.MaxLine-6)+"view 0", "tea 4 down 4 0 up 6 0", "tea 3.50 0")
	r.refuses(`""`, api.ErrShopLine)
	r.refuses(`"" state`, api.ErrShopLine)
}

// An item is named by any name with the fold of its own; what is told is the configuration's.
func TestP20_3Names(t *testing.T) {
	c := store()
	c.Counters = append(c.Counters, api.Counter{Name: "sure", Hi: 9, Start: 9}, api.Counter{Name: "7", Hi: 9, Start: 9})
	r := newRig(t, c)
	number := 0
	for _, name := range []string{"Tea", "tea", "TEA", "tEA", "CAFÉ", "café", "CAFé", "cafÉ", "x.y_z-1", "X.Y_Z-1"} {
		number++
		r.says("sale 0 "+name+" 1", fmt.Sprint("act 0 ", number, " tentative"))
	}
	for _, name := range []string{"cafe", "CAFE", "cafÈ", "x.y-z_1", "xyz1", "Ω"} {
		r.refuses("sale 0 "+name+" 1", api.ErrShopName)
	}
	r.says("price 0 tEA 1", "act 0 11 tentative")
	r.says("price 0 Ω 1", "act 0 12 tentative")
	for _, name := range []string{"ω", "café", "O"} { // U+03A9 has no other fold
		r.refuses("price 0 "+name+" 1", api.ErrShopName)
	}
	lines := r.Pending(0)[0].Lines
	for i, counter := range []int{0, 0, 0, 0, 1, 1, 1, 1, 2, 2} {
		if lines = r.Pending(0)[i].Lines; len(lines) != 1 || lines[0] != (api.Line{Counter: counter, Change: -1}) {
			t.Errorf("act %d: %+v", i+1, lines)
		}
	}
	// A word that says what is taken may be an item's name, where an item stands.
	r.says("sale 0 sure 1", "act 0 13 tentative")
	r.says("sale 0 sure 2 7 3 loose", "act 0 14 tentative")
	if lines = r.Pending(0)[13].Lines; show(lines) != show([]api.Line{{Counter: 3, Change: -2}, {Counter: 4, Change: -3}}) {
		t.Errorf("%+v", lines)
	}
	r.refuses("sale 0 sure 1 sure", api.ErrDraftRights)
	r.refuses("sale 0 sure", api.ErrShopLine)
	r.refuses("sale 0 7 sure", api.ErrShopLine)
	r.refuses("sale 0 7 7 7", api.ErrShopLine)
}

func TestP20_3Numbers(t *testing.T) {
	r := newRig(t, conf())
	r.says("sale 0 tea 1099511627776", "act 0 1 tentative")
	r.refuses("sale 0 tea 1099511627777", api.ErrShopLine)
	r.refuses("deliver 1099511627776", api.ErrWorldEvent)
	r.refuses("deliver 1099511627777", api.ErrShopLine)
	r.refuses("tick 1099511627776", api.ErrShopName)
	r.refuses("tick 1099511627777", api.ErrShopLine)
	r.refuses("count 0 tea 9007199254740992", api.ErrActLine)
	r.refuses("count 0 tea -9007199254740992", api.ErrActLine)
	r.refuses("count 0 tea 9007199254740993", api.ErrShopLine)
	r.says("price 0 tea 10'995'116'277.76", "act 0 2 tentative")
	r.refuses("price 0 tea 10'995'116'277.77", api.ErrShopLine)
	r.refuses("sale 0"+strings.Repeat(" tea 1", 9), api.ErrActLine)
	r.says("sale 0"+strings.Repeat(" tea 1", 8)+" loose", "act 0 3 tentative")
	r.refuses("sale 0"+strings.Repeat(" tea 1", 15), api.ErrActLine)
	r.refuses("sale 0"+strings.Repeat(" tea 1", 14)+" sure", api.ErrActLine)
	r.refuses("sale 0"+strings.Repeat(" tea 1", 15)+" sure", api.ErrTextLine)
}
