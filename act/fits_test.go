package act_test

import (
	"fmt"
	"math"
	"strings"
	"testing"

	"till/act"
	"till/api"
)

// conf is the chapter's configuration: two tills, two counters, a price.
func conf() api.Config {
	return api.Config{
		Tills:    2,
		Counters: []api.Counter{{Name: "tea", Hi: 100, Start: 10}, {Name: "cups", Lo: -5, Hi: 5}},
		Prices:   []api.Price{{Name: "tea", Start: 250}},
		Lease:    20, Watch: 30, Beat: 4, Window: 2, Cap: 4, Flight: 50,
	}
}

// greatest is a configuration with as much of everything as may be.
func greatest() api.Config {
	c := api.Config{
		Tills: api.MaxTills, Lease: api.MaxTicks, Watch: api.MaxTicks, Beat: api.MaxTicks - 4,
		Window: api.MaxWindow, Cap: api.MaxCap, Flight: api.MaxFlight,
	}
	for i := range api.MaxCounters {
		c.Counters = append(c.Counters, api.Counter{Name: fmt.Sprint("c", i), Lo: -api.MaxBound, Hi: api.MaxBound, Start: api.MaxBound})
	}
	for i := range api.MaxPrices {
		c.Prices = append(c.Prices, api.Price{Name: fmt.Sprint("c", i), Start: api.MaxAmount})
	}
	return c
}

// least is a configuration with as little of everything as may be.
func least() api.Config {
	return api.Config{
		Tills: 1, Counters: []api.Counter{{Name: "x", Lo: -api.MaxBound, Hi: -api.MaxBound, Start: -api.MaxBound}},
		Lease: 1, Watch: 5, Beat: 1, Window: 1, Cap: 1, Flight: 1,
	}
}

func TestP8_1WhatFits(t *testing.T) {
	for name, c := range map[string]api.Config{"the chapter's": conf(), "the greatest": greatest(), "the least": least()} {
		if errno := act.Fits(c); errno != api.OK {
			t.Errorf("%s: %d", name, errno)
		}
	}
	for name, change := range map[string]func(c *api.Config){
		"beat just below watch":    func(c *api.Config) { c.Beat = c.Watch - 4 },
		"no prices":                func(c *api.Config) { c.Prices = nil },
		"no room between bounds":   func(c *api.Config) { c.Counters[0] = api.Counter{Name: "tea", Lo: 7, Hi: 7, Start: 7} },
		"a price of 0":             func(c *api.Config) { c.Prices[0].Start = 0 },
		"a long name":              func(c *api.Config) { c.Counters[0].Name = strings.Repeat("x", api.MaxName) },
		"names that fold unlike":   func(c *api.Config) { c.Counters[0].Name, c.Counters[1].Name = "×", "÷" },
		"a counter and a price":    func(c *api.Config) { c.Prices[0].Name = "CUPS" },
		"letters that do not fold": func(c *api.Config) { c.Counters[0].Name, c.Counters[1].Name = "Ω", "ω" },
		"first value at Lo":        func(c *api.Config) { c.Counters[0].Start = 0 },
		"first value at Hi":        func(c *api.Config) { c.Counters[0].Start = 100 },
		"lease far above watch":    func(c *api.Config) { c.Lease = api.MaxTicks },
	} {
		c := conf()
		change(&c)
		if errno := act.Fits(c); errno != api.OK {
			t.Errorf("%s: %d", name, errno)
		}
	}
}

// numbers are those of a configuration that have a bound on each side.
func numbers(c *api.Config) map[string]*int {
	return map[string]*int{
		"Tills": &c.Tills, "Lease": &c.Lease, "Watch": &c.Watch, "Beat": &c.Beat,
		"Window": &c.Window, "Cap": &c.Cap, "Flight": &c.Flight,
	}
}

func TestP8_1NumbersOutOfBounds(t *testing.T) {
	c := greatest()
	for name := range numbers(&c) {
		for _, n := range []int{0, -1, math.MinInt, math.MaxInt, math.MaxInt - 3, 1 << 32} {
			c := greatest()
			*numbers(&c)[name] = n
			if errno := act.Fits(c); errno != api.ErrActConfig {
				t.Errorf("%s %d: %d", name, n, errno)
			}
		}
		c := greatest()
		*numbers(&c)[name]++
		if errno := act.Fits(c); errno != api.ErrActConfig {
			t.Errorf("%s one above: %d", name, errno)
		}
		c = least()
		*numbers(&c)[name]--
		if errno := act.Fits(c); errno != api.ErrActConfig {
			t.Errorf("%s one below: %d", name, errno)
		}
	}
}

func TestP8_1WhatDoesNotFit(t *testing.T) {
	for name, change := range map[string]func(c *api.Config){
		"nothing at all":         func(c *api.Config) { *c = api.Config{} },
		"beat too near to watch": func(c *api.Config) { c.Beat = c.Watch - 3 },
		"no counters":            func(c *api.Config) { c.Counters = nil },
		"a counter too many": func(c *api.Config) {
			*c = greatest()
			c.Counters = append(c.Counters, api.Counter{Name: "more"})
		},
		"a price too many": func(c *api.Config) {
			*c = greatest()
			c.Prices = append(c.Prices, api.Price{Name: "more"})
		},
		"counters of one name":     func(c *api.Config) { c.Counters[1].Name = "tea" },
		"counters alike":           func(c *api.Config) { c.Counters[1].Name = "tEa" },
		"counters alike by É":      func(c *api.Config) { c.Counters[0].Name, c.Counters[1].Name = "É", "é" },
		"counters alike, far away": func(c *api.Config) { *c = greatest(); c.Counters[63].Name = "C0" },
		"prices alike":             func(c *api.Config) { c.Prices = append(c.Prices, api.Price{Name: "TEA"}) },
		"prices alike, far away":   func(c *api.Config) { *c = greatest(); c.Prices[0].Name = "C63" },
		"a counter without a name": func(c *api.Config) { c.Counters[0].Name = "" },
		"a price without a name":   func(c *api.Config) { c.Prices[0].Name = "" },
		"a counter's blank":        func(c *api.Config) { c.Counters[1].Name = "a b" },
		"a price's slash":          func(c *api.Config) { c.Prices[0].Name = "a/b" },
		"a name that is too long":  func(c *api.Config) { c.Counters[0].Name = strings.Repeat("x", api.MaxName+1) },
		"a name that is no text":   func(c *api.Config) { c.Counters[0].Name = "\x80" },
		"Lo too low":               func(c *api.Config) { c.Counters[1].Lo = -api.MaxBound - 1 },
		"Lo lowest":                func(c *api.Config) { c.Counters[1].Lo = math.MinInt64 },
		"Hi too high":              func(c *api.Config) { c.Counters[0].Hi = api.MaxBound + 1 },
		"Hi highest":               func(c *api.Config) { c.Counters[0].Hi = math.MaxInt64 },
		"all too high": func(c *api.Config) {
			c.Counters[0].Lo, c.Counters[0].Start, c.Counters[0].Hi = api.MaxBound+1, api.MaxBound+1, api.MaxBound+1
		},
		"Start below Lo":        func(c *api.Config) { c.Counters[0].Start = -1 },
		"Start above Hi":        func(c *api.Config) { c.Counters[0].Start = 101 },
		"Lo above Hi":           func(c *api.Config) { c.Counters[0].Lo, c.Counters[0].Start, c.Counters[0].Hi = 2, 1, 1 },
		"the last counter":      func(c *api.Config) { *c = greatest(); c.Counters[63].Hi++ },
		"a price below 0":       func(c *api.Config) { c.Prices[0].Start = -1 },
		"a price that is more":  func(c *api.Config) { c.Prices[0].Start = api.MaxAmount + 1 },
		"the last price":        func(c *api.Config) { *c = greatest(); c.Prices[63].Start++ },
		"a price at its lowest": func(c *api.Config) { c.Prices[0].Start = math.MinInt64 },
	} {
		c := conf()
		change(&c)
		if errno := act.Fits(c); errno != api.ErrActConfig {
			t.Errorf("%s: %d", name, errno)
		}
	}
}
