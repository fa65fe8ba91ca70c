package device

import (
	"bytes"
	"slices"

	"till/act"
	"till/api"
	"till/disk"
	"till/draft"
	"till/journal"
)

// journalName names a till's journal on its disk.
const journalName = "till"

// history is what a journal tells: the last life (0: none), the entries taken, and the draft that these and the acts issued have made.
type history struct {
	life    uint64
	entries []api.Entry
	draft   draft.Draft
}

// find opens a disk's journal, and tells what it tells. It changes nothing.
func find(c api.Config, till int, d *disk.Disk) (*journal.Journal, history, api.Errno) {
	if act.Fits(c) != api.OK || till < 0 || till >= c.Tills {
		return nil, history{}, api.ErrActConfig
	}
	j, errno := journal.Open(d, journalName)
	if errno != api.OK {
		return nil, history{}, errno
	}
	found, ok := read(c, till, j.All())
	if !ok || found.life == api.MaxNumber {
		return nil, history{}, api.ErrDeviceDisk
	}
	return j, found, api.OK
}

// read goes through all transactions; without ok they may not be.
func read(c api.Config, till int, transactions [][][]byte) (history, bool) {
	h := history{draft: *draft.New(c, till)}
	for i, t := range transactions {
		parts, ok := readParts(c, t)
		if !ok {
			return history{}, false
		}
		if i == 0 {
			ok = h.load(c, till, parts)
		} else {
			ok = h.goOn(c, parts)
		}
		if !ok {
			return history{}, false
		}
	}
	return h, true
}

// load takes the first transaction: a life, then entries, then acts.
func (h *history) load(c api.Config, till int, parts []part) bool {
	var acts []api.Act
	for i, p := range parts {
		switch x := p.(type) {
		case lifePart:
			if i != 0 || !h.begin(uint64(x)) {
				return false
			}
		case entryPart:
			if len(acts) > 0 {
				return false
			}
			h.entries = append(h.entries, x.Entry)
		case actPart:
			acts = append(acts, x.Act)
		}
	}
	d, errno := draft.Load(c, till, h.entries, acts)
	if h.life == 0 || errno != api.OK {
		return false
	}
	h.draft = *d
	return true
}

// goOn takes a later transaction. Behind its first part stands nothing but the yield that an entry brings.
func (h *history) goOn(c api.Config, parts []part) bool {
	if len(parts) == 0 {
		return false
	}
	switch x := parts[0].(type) {
	case lifePart:
		return len(parts) == 1 && h.begin(uint64(x))
	case actPart:
		return len(parts) == 1 && h.draft.Put(x.Act) == api.OK
	case entryPart:
		kept, ok := h.take(x.Entry)
		return ok && slices.EqualFunc(inBytes(c, kept), inBytes(c, parts), bytes.Equal)
	}
	return false
}

// begin takes a life, if it may follow.
func (h *history) begin(life uint64) bool {
	rises := life > h.life && life <= api.MaxNumber
	h.life = life
	return rises
}

// take takes an entry, if it is the next one, and tells the transaction that keeps it: the yield that it brings stands behind it.
func (h *history) take(e api.Entry) ([]part, bool) {
	yield, brings, errno := h.draft.Take(e)
	if errno != api.OK {
		return nil, false
	}
	h.entries = append(h.entries, e)
	parts := []part{entryPart{e}}
	if brings {
		parts = append(parts, actPart{yield})
	}
	return parts, true
}

// copied is for what is to be kept ahead of its being so. (Its entries share the row: the older one never takes another entry, if the journal refuses this one.)
func (h history) copied() history {
	h.draft = *h.draft.Copy()
	return h
}

// state tells all of it as one transaction.
func (h *history) state() []part {
	parts := []part{lifePart(h.life)}
	for _, e := range h.entries {
		parts = append(parts, entryPart{e})
	}
	for _, a := range h.draft.Pending() {
		parts = append(parts, actPart{a})
	}
	return parts
}

// keep adds a transaction to the journal, behind which the history is another one; where the journal has grown long, all of that comes in its place.
func (v *Device) keep(next history, parts ...part) api.Errno {
	if v.journal.Len() < api.MaxRecords {
		return v.journal.Add(inBytes(v.config, parts))
	}
	return v.journal.Checkpoint(inBytes(v.config, next.state()))
}
