package server

import (
	"slices"

	"till/act"
	"till/api"
	"till/code"
	"till/disk"
	"till/journal"
	"till/log"
)

// journalName names the server's journal on its disk.
const journalName = "server"

// Kinds of records.
const (
	recordLife = iota + 1
	recordEntry
)

// history is what a journal says: the last life (0: none), and the log.
type history struct {
	life uint64
	log  log.Log
}

// find opens a disk's journal, and tells what it says. It changes nothing.
func find(c api.Config, d *disk.Disk) (*journal.Journal, history, api.Errno) {
	if errno := act.Fits(c); errno != api.OK {
		return nil, history{}, errno
	}
	j, errno := journal.Open(d, journalName)
	if errno != api.OK {
		return nil, history{}, errno
	}
	found, ok := read(c, j.All())
	if !ok || found.life == api.MaxNumber {
		return nil, history{}, api.ErrServerDisk
	}
	return j, found, api.OK
}

// read takes all records, one behind the other; without ok they may not be.
func read(c api.Config, transactions [][][]byte) (history, bool) {
	h := history{log: *log.New(c)}
	for _, record := range slices.Concat(transactions...) {
		if !h.take(c, record) {
			return history{}, false
		}
	}
	return h, true
}

// take takes one more record, if it may be.
func (h *history) take(c api.Config, record []byte) bool {
	r := code.Read(record)
	switch r.U8() {
	case recordLife:
		before := h.life
		h.life = r.U64()
		return r.End() == api.OK && h.life > before && h.life <= api.MaxNumber
	case recordEntry:
		e, errno := act.DecodeEntry(c, r.Raw(r.Left()))
		return errno == api.OK && h.log.Add(e) == api.OK
	}
	return false
}

func (h *history) entries() []api.Entry { return h.log.From(0, h.log.Len()) }

// keepLife keeps the life that begins, keepEntry the entry that is to be the next.
func (s *Server) keepLife() api.Errno {
	return s.keep(lifeRecord(s.life), s.records)
}

func (s *Server) keepEntry(e api.Entry) api.Errno {
	record := entryRecord(s.config, e)
	return s.keep(record, func() [][]byte { return append(s.records(), record) })
}

// keep adds a record to the journal; where that has grown long, all records come in its place.
func (s *Server) keep(record []byte, all func() [][]byte) api.Errno {
	if s.journal.Len() >= api.MaxRecords {
		return s.journal.Checkpoint(all())
	}
	return s.journal.Add([][]byte{record})
}

// records tells the life, and behind it all entries.
func (s *Server) records() [][]byte {
	all := [][]byte{lifeRecord(s.life)}
	for _, e := range s.log.All() {
		all = append(all, entryRecord(s.config, e))
	}
	return all
}

func lifeRecord(life uint64) []byte {
	w := code.New()
	w.U8(recordLife)
	w.U64(life)
	return w.Out()
}

// entryRecord is of an entry that the log has, or takes: act refuses none of these.
func entryRecord(c api.Config, e api.Entry) []byte {
	b, _ := act.EncodeEntry(c, e)
	w := code.New()
	w.U8(recordEntry)
	w.Raw(b)
	return w.Out()
}
