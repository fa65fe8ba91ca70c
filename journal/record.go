package journal

import (
	"bytes"

	"till/api"
	"till/code"
)

// The measures of a record: what it begins with, its head and tail, and how long its body may be (of no parts: a number and their count).
const (
	mark      = 0xa7
	headSize  = 9
	tailSize  = 4
	leastBody = 12
	mostBody  = api.MaxRecord - headSize - tailSize
)

// transaction is what a record tells.
type transaction struct {
	number uint64
	parts  [][]byte
}

// record writes a transaction; it is none, if it is too long. The parts are measured ahead of being laid down: together they may be far longer than a record.
func (t transaction) record() ([]byte, bool) {
	if len(t.parts) > api.MaxParts || t.number > api.MaxNumber {
		return nil, false
	}
	body := code.New()
	body.U64(t.number)
	body.U32(uint32(len(t.parts)))
	for _, p := range t.parts {
		if len(p) > mostBody-body.Len() {
			return nil, false
		}
		body.Bytes(p)
	}
	if body.Len() > mostBody {
		return nil, false
	}
	return framed(body.Out()), true
}

// framed lays a body between its head and its tail.
func framed(body []byte) []byte {
	w := code.New()
	w.Raw(head(uint32(len(body))))
	w.Raw(body)
	w.U32(code.Sum(body))
	return w.Out()
}

func head(body uint32) []byte {
	w := code.New()
	w.U8(mark)
	w.U32(body)
	w.U32(code.Sum(w.Out()))
	return w.Out()
}

// recordSize tells how long the record is that begins with these bytes, nine at least; it is false, if they are no right head.
func recordSize(b []byte) (int, bool) {
	first := b[:headSize:headSize]
	r := code.Read(first)
	r.U8()
	body := r.U32()
	if body < leastBody || body > mostBody || !bytes.Equal(first, head(body)) {
		return 0, false
	}
	return headSize + int(body) + tailSize, true
}

// readRecord tells the transaction whose record these bytes are, of a right head and the length that it tells; it is false, if they are none's.
func readRecord(b []byte) (transaction, bool) {
	end := len(b) - tailSize
	body, tail := b[headSize:end:end], code.Read(b[end:])
	if tail.U32() != code.Sum(body) {
		return transaction{}, false
	}
	return readBody(body)
}

func readBody(body []byte) (transaction, bool) {
	r := code.Read(body)
	t := transaction{number: r.U64()}
	count := r.U32()
	if t.number < 1 || t.number > api.MaxNumber || count > api.MaxParts {
		return transaction{}, false
	}
	t.parts = make([][]byte, 0, count)
	for range count {
		t.parts = append(t.parts, r.Bytes(mostBody))
	}
	if r.End() != api.OK {
		return transaction{}, false
	}
	return t, true
}

// goThrough takes up the records of a file's good part, each cut off from what lies behind it.
func (j *Journal) goThrough(b []byte) api.Errno {
	for len(b) > 0 {
		if len(b) < headSize {
			j.torn = true
			return api.OK
		}
		size, right := recordSize(b)
		if !right {
			return api.ErrJournalDamage
		}
		if len(b) < size {
			j.torn = true
			return api.OK
		}
		r := b[:size:size]
		t, whole := readRecord(r)
		if !whole || len(j.records) > 0 && t.number != j.Next() {
			return api.ErrJournalDamage
		}
		j.take(r, t.number)
		b = b[size:]
	}
	return api.OK
}

// take makes a record the journal's last one.
func (j *Journal) take(record []byte, number uint64) {
	j.records = append(j.records, record)
	j.last = number
}
