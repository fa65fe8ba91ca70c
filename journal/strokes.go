package journal

import "till/api"

// stroke is one step of an Add or a Checkpoint.
type stroke func() api.Errno

// Add adds one transaction, Checkpoint puts one in the place of all.
func (j *Journal) Add(parts [][]byte) api.Errno {
	return j.keep(parts, j.adding)
}

func (j *Journal) Checkpoint(parts [][]byte) api.Errno {
	return j.keep(parts, j.replacing)
}

// keep carries out the strokes for the next record till one is refused. That the power was off is noted whichever stroke met it.
func (j *Journal) keep(parts [][]byte, strokes func(record []byte) []stroke) (answer api.Errno) {
	if j.off {
		return api.ErrJournalOff
	}
	record, ok := transaction{j.Next(), parts}.record()
	if !ok {
		return api.ErrJournalLong
	}
	defer func() { j.off = answer == api.ErrDiskOff }()
	for _, s := range strokes(record) {
		if e := s(); e != api.OK {
			return e
		}
	}
	j.take(record, j.Next())
	j.named = true
	return api.OK
}

// adding is the row of an Add's strokes. That the file is mended is noted at once: it stays so, whatever becomes of the strokes behind.
func (j *Journal) adding(record []byte) []stroke {
	var row []stroke
	d := j.files()
	if j.torn {
		row = append(row, with(d.Cut, j.name, j.good()), noted(func() { j.torn = false }))
	}
	row = append(row, with(d.Append, j.name, record), on(d.Sync, j.name))
	if !j.named {
		row = append(row, d.SyncNames)
	}
	return row
}

// replacing is the row of a Checkpoint's strokes. The older records are let go behind the last one: no name leads to their file any more.
func (j *Journal) replacing(record []byte) []stroke {
	var row []stroke
	d, second := j.files(), j.name+secondEnd
	if _, e := d.Size(second); e == api.OK {
		row = append(row, on(d.Remove, second))
	}
	return append(row,
		with(d.Append, second, record),
		on(d.Sync, second),
		with(d.Rename, second, j.name),
		d.SyncNames,
		noted(func() { j.records, j.torn = nil, false }),
	)
}

// on and with bind a call of the disk to the file that it is made for, and to what it is given beside.
func on(call func(string) api.Errno, file string) stroke {
	return func() api.Errno { return call(file) }
}

func with[A any](call func(string, A) api.Errno, file string, beside A) stroke {
	return func() api.Errno { return call(file, beside) }
}

// noted makes a step of what is only to be noted: it is never refused.
func noted(note func()) stroke {
	return func() api.Errno {
		note()
		return api.OK
	}
}
