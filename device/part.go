package device

import (
	"till/act"
	"till/api"
	"till/code"
)

// Kinds of parts.
const (
	kindLife = iota + 1
	kindAct
	kindEntry
)

// part is what a part of a transaction says.
type part interface {
	bytes(c api.Config) []byte
}

type lifePart uint64

type actPart struct{ api.Act }

type entryPart struct{ api.Entry }

func (p lifePart) bytes(api.Config) []byte {
	w := code.New()
	w.U8(kindLife)
	w.U64(uint64(p))
	return w.Out()
}

// What a draft has issued or taken may be: act refuses none of it.
func (p actPart) bytes(c api.Config) []byte {
	b, _ := act.Encode(c, p.Act)
	return ofKind(kindAct, b)
}

func (p entryPart) bytes(c api.Config) []byte {
	b, _ := act.EncodeEntry(c, p.Entry)
	return ofKind(kindEntry, b)
}

func ofKind(kind uint8, b []byte) []byte {
	w := code.New()
	w.U8(kind)
	w.Raw(b)
	return w.Out()
}

// inBytes tells a transaction as its journal has it.
func inBytes(c api.Config, parts []part) [][]byte {
	out := make([][]byte, 0, len(parts))
	for _, p := range parts {
		out = append(out, p.bytes(c))
	}
	return out
}

// readParts tells what a transaction's parts say; without ok one of them is none.
func readParts(c api.Config, transaction [][]byte) ([]part, bool) {
	parts := make([]part, 0, len(transaction))
	for _, b := range transaction {
		p, ok := readPart(c, b)
		if !ok {
			return nil, false
		}
		parts = append(parts, p)
	}
	return parts, true
}

func readPart(c api.Config, b []byte) (part, bool) {
	r := code.Read(b)
	switch r.U8() {
	case kindLife:
		life := r.U64()
		return lifePart(life), r.End() == api.OK
	case kindAct:
		a, errno := act.Decode(c, r.Raw(r.Left()))
		return actPart{a}, errno == api.OK
	case kindEntry:
		e, errno := act.DecodeEntry(c, r.Raw(r.Left()))
		return entryPart{e}, errno == api.OK
	}
	return nil, false
}
