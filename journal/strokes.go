package journal

import "till/api"

// stroke is one step of an Add or a Checkpoint.
type stroke func() api.Errno

// Add adds one transaction, Checkpoint puts one in the place of all.
func (j *Journal) Add(parts [][]byte) api.Errno {
	return j.keep(parts, j.adding)
}

func (j *Journal) Checkpoint(parts [][]byte) api.Errno {
	return j.keep(parts, j.replacing)
}

// keep carries out the strokes for the next record till one is refused. That the power was off is noted whichever stroke met it.
func (j *Journal) keep(parts [][]byte, strokes func(record []byte) []stroke) (answer api.Errno) {
	if j.off {
		return api.ErrJournalOff
	}
	record, ok := transaction{j.Next(), parts}.record()
	if !ok {
		return api.ErrJournalLong
	}
	defer func() { j.off = answer == api.ErrDiskOff }()
	for _, s := range strokes(record) {
		if e := s(); e != api.OK {
			return e
		}
	}
	j.take(record, j.Next())
	j.named = true
	return api.OK
}

// adding is the row of an Add's strokes.
func (j *Journal) adding(record []byte) []stroke {
	d := j.files()
	row := []stroke{
		withBytes(d.Append, j.name, record),
		onFile(d.Sync, j.name),
	}
	if j.torn {
		row = append([]stroke{j.mend}, row...)
	}
	if !j.named {
		row = append(row, d.SyncNames)
	}
	return row
}

// mend cuts off what a crash has left of a record; that is done, whatever becomes of the strokes behind it.
func (j *Journal) mend() api.Errno {
	e := j.files().Cut(j.name, j.good())
	j.torn = e != api.OK
	return e
}

// replacing is the row of a Checkpoint's strokes; the older records are let go behind the last of them.
func (j *Journal) replacing(record []byte) []stroke {
	d := j.files()
	return []stroke{
		j.clearSecond,
		withBytes(d.Append, j.second(), record),
		onFile(d.Sync, j.second()),
		func() api.Errno { return d.Rename(j.second(), j.name) },
		d.SyncNames,
		j.forget,
	}
}

// clearSecond removes what a Checkpoint that a crash met has left.
func (j *Journal) clearSecond() api.Errno {
	d := j.files()
	_, e := d.Size(j.second())
	if e == api.ErrDiskNone {
		return api.OK
	}
	if e != api.OK {
		return e
	}
	return d.Remove(j.second())
}

// forget drops all records: the file that held them has no name any more.
func (j *Journal) forget() api.Errno {
	j.records, j.torn = nil, false
	return api.OK
}

// onFile and withBytes bind a call of the disk to what it is made for.
func onFile(call func(string) api.Errno, name string) stroke {
	return func() api.Errno { return call(name) }
}

func withBytes(call func(string, []byte) api.Errno, name string, b []byte) stroke {
	return func() api.Errno { return call(name, b) }
}
