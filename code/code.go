// Package code: bytes written and read, and a check sum: see ../shared/doc/01-code.md.
package code

import (
	"math/bits"

	"till/api"
)

// The shape of a Var: so many bits of the number a byte, the mark of a byte that another one follows, and how many bytes 64 bits need.
const (
	varBits = 7
	varMore = 1 << varBits
	varMask = varMore - 1
	varMost = 10
)

// Writer gathers bytes.
type Writer struct {
	held []byte
}

// New makes an empty writer.
func New() *Writer { return &Writer{} }

// U8, U32 and U64 write a number in one, four, eight bytes.
func (w *Writer) U8(n uint8) { w.fixed(uint64(n), kindU8) }

func (w *Writer) U32(n uint32) { w.fixed(uint64(n), kindU32) }

func (w *Writer) U64(n uint64) { w.fixed(n, kindU64) }

func (w *Writer) fixed(n uint64, k kind) {
	size := width(k)
	for i := range size {
		w.held = append(w.held, byte(n>>(8*(size-1-i))))
	}
}

// Var writes a number in its shortest form.
func (w *Writer) Var(n uint64) {
	for range varSize(n) - 1 {
		w.held = append(w.held, byte(n)|varMore)
		n >>= varBits
	}
	w.held = append(w.held, byte(n))
}

// varSize tells how many bytes a number's shortest form has; 0 has no bits, but takes a byte.
func varSize(n uint64) int {
	return max(1, (bits.Len64(n)+varBits-1)/varBits)
}

// Bytes writes the length and the bytes, Raw the bytes alone.
func (w *Writer) Bytes(b []byte) {
	w.Var(uint64(len(b)))
	w.Raw(b)
}

func (w *Writer) Raw(b []byte) { w.held = append(w.held, b...) }

// Len tells how many bytes there are, Out the bytes.
func (w *Writer) Len() int { return len(w.held) }

func (w *Writer) Out() []byte { return copied(w.held) }

// copied answers new memory without spare room, so that nobody's append lands in what is held.
func copied(b []byte) []byte {
	out := make([]byte, len(b))
	copy(out, b)
	return out
}

// kind is what a Reader is about to read.
type kind int

const (
	kindU8 kind = iota
	kindU32
	kindU64
	kindVar
	kindBytes
	kindRaw
)

// width tells in how many bytes a number of fixed size stands.
func width(k kind) int {
	switch k {
	case kindU8:
		return 1
	case kindU32:
		return 4
	default:
		return 8
	}
}

// item is what stands at a place: a number or bytes, and how many bytes it takes up in all.
type item struct {
	number uint64
	bytes  []byte
	size   int
}

// Reader takes bytes apart, up to the first fault.
type Reader struct {
	held  []byte
	at    int
	fault api.Errno
}

// Read begins at the first of the bytes.
func Read(b []byte) *Reader { return &Reader{held: copied(b)} }

func (r *Reader) U8() uint8 { return uint8(r.next(kindU8, 0).number) }

func (r *Reader) U32() uint32 { return uint32(r.next(kindU32, 0).number) }

func (r *Reader) U64() uint64 { return r.next(kindU64, 0).number }

// Var reads a number of at most so much.
func (r *Reader) Var(most uint64) uint64 { return r.next(kindVar, most).number }

// Bytes reads a length of at most so much and the bytes, Raw just n bytes.
func (r *Reader) Bytes(most int) []byte {
	return copied(r.next(kindBytes, uint64(max(0, most))).bytes)
}

func (r *Reader) Raw(n int) []byte {
	if n < 0 {
		r.fail(api.ErrCodeArg)
		return nil
	}
	return copied(r.next(kindRaw, uint64(n)).bytes)
}

// next takes the item off the front, or notes why it is not there; the bytes that it tells are still the Reader's own.
func (r *Reader) next(k kind, bound uint64) item {
	if r.fault != api.OK {
		return item{}
	}
	it, fault := find(r.held[r.at:], k, bound)
	if fault != api.OK {
		r.fail(fault)
		return item{}
	}
	r.at += it.size
	return it
}

// fail keeps the first fault alone: it is for good.
func (r *Reader) fail(fault api.Errno) {
	if r.fault == api.OK {
		r.fault = fault
	}
}

// find looks for an item at the front of the bytes; bound is a Var's or a length's greatest number, and how many bytes a Raw has.
func find(b []byte, k kind, bound uint64) (item, api.Errno) {
	switch k {
	case kindVar:
		return findVar(b, bound)
	case kindBytes:
		return findBytes(b, bound)
	case kindRaw:
		return findRaw(b, bound)
	default:
		return findFixed(b, width(k))
	}
}

func findFixed(b []byte, size int) (item, api.Errno) {
	if len(b) < size {
		return item{}, api.ErrCodeShort
	}
	n := uint64(0)
	for i := range size {
		n = n<<8 | uint64(b[i])
	}
	return item{number: n, size: size}, api.OK
}

func findVar(b []byte, most uint64) (item, api.Errno) {
	n := uint64(0)
	for i := range min(len(b), varMost) {
		c := b[i]
		if i == varMost-1 && c > 1 {
			return item{}, api.ErrCodeForm
		}
		n |= uint64(c&varMask) << (varBits * i)
		if c&varMore != 0 {
			continue
		}
		if c == 0 && i > 0 {
			return item{}, api.ErrCodeForm
		}
		if n > most {
			return item{}, api.ErrCodeMax
		}
		return item{number: n, size: i + 1}, api.OK
	}
	// A tenth byte always ends the loop above, so here the bytes have run out.
	return item{}, api.ErrCodeShort
}

func findBytes(b []byte, most uint64) (item, api.Errno) {
	length, fault := findVar(b, most)
	if fault != api.OK {
		return item{}, fault
	}
	body, fault := findRaw(b[length.size:], length.number)
	if fault != api.OK {
		return item{}, fault
	}
	return item{bytes: body.bytes, size: length.size + body.size}, api.OK
}

// findRaw holds n against what is left ahead of making an int of it: a length may be any 64 bits.
func findRaw(b []byte, n uint64) (item, api.Errno) {
	if n > uint64(len(b)) {
		return item{}, api.ErrCodeShort
	}
	size := int(n)
	return item{bytes: b[:size], size: size}, api.OK
}

// Left tells how many bytes are left, At where the next item begins.
func (r *Reader) Left() int { return len(r.held) - r.at }

func (r *Reader) At() int { return r.at }

// Fault tells the first fault, End too whether bytes are left.
func (r *Reader) Fault() api.Errno { return r.fault }

func (r *Reader) End() api.Errno {
	if r.fault == api.OK && r.Left() > 0 {
		return api.ErrCodeLeft
	}
	return r.fault
}

// sumSteps tells, of the four bits that fall out of the register, what is taken into it for them together.
var sumSteps = [16]uint32{
	0x00000000, 0x1db71064, 0x3b6e20c8, 0x26d930ac,
	0x76dc4190, 0x6b6b51f4, 0x4db26158, 0x5005713c,
	0xedb88320, 0xf00f9344, 0xd6d6a3e8, 0xcb61b38c,
	0x9b64c2b0, 0x86d3d2d4, 0xa00ae278, 0xbdbdf21c,
}

// Sum tells the check sum of bytes.
func Sum(b []byte) uint32 {
	register := ^uint32(0)
	for _, c := range b {
		register ^= uint32(c)
		register = register>>4 ^ sumSteps[register&15]
		register = register>>4 ^ sumSteps[register&15]
	}
	return ^register
}
