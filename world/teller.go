package world

import (
	"till/api"
	"till/device"
	"till/draft"
)

// teller tells of a till: the till itself, if it is up.
type teller interface {
	Taken() []api.Entry
	Pending() []api.Act
	Base() api.State
	View() api.State
}

// kept tells of a till that is down, by what its disk keeps. A zero one tells nothing.
type kept struct {
	draft.Draft
	entries []api.Entry
}

func (k *kept) Taken() []api.Entry { return k.entries }

func (w *World) teller(till int) teller {
	n := w.node(till)
	if n == nil || till == w.config.Tills {
		return &kept{}
	}
	if n.till != nil {
		return n.till
	}
	entries, pending, _, _ := device.Kept(w.config, till, n.disk)
	d, errno := draft.Load(w.config, till, entries, pending)
	if errno != api.OK {
		return &kept{}
	}
	return &kept{Draft: *d, entries: entries}
}
