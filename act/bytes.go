package act

import (
	"till/api"
	"till/code"
)

// reader takes items off the front of bytes; the first one that is not there ends the whole reading (giveUp).
type reader struct {
	items *code.Reader
}

// giveUp leaves a reading from wherever it has come to; readWhole takes that up.
func giveUp() { panic(api.ErrActBytes) }

// readWhole reads all of the bytes as one thing; without ok there is none.
func readWhole[T any](b []byte, read func(r reader) T) (thing T, ok bool) {
	defer func() {
		if recover() != nil {
			var none T
			thing, ok = none, false
		}
	}()
	r := reader{items: code.Read(b)}
	thing = read(r)
	if r.items.End() != api.OK {
		giveUp()
	}
	return thing, true
}

func (r reader) goOn() {
	if r.items.Fault() != api.OK {
		giveUp()
	}
}

func (r reader) small() int {
	n := r.items.U8()
	r.goOn()
	return int(n)
}

func (r reader) number(most uint64) uint64 {
	n := r.items.Var(most)
	r.goOn()
	return n
}

// signed reads a number of at most so much on both sides of 0.
func (r reader) signed(most uint64) int64 {
	n := r.number(2 * most)
	if n%2 == 1 {
		return -int64(n/2) - 1
	}
	return int64(n / 2)
}

func (r reader) flag() bool {
	n := r.small()
	if n > 1 {
		giveUp()
	}
	return n == 1
}

// readList takes memory for an item only when it is there, whatever number the bytes tell.
func readList[T any](r reader, one func(r reader) T) []T {
	var list []T
	for range r.small() {
		list = append(list, one(r))
	}
	return list
}

func writeList[T any](w *code.Writer, list []T, one func(w *code.Writer, item T)) {
	writeSmall(w, len(list))
	for _, item := range list {
		one(w, item)
	}
}

func writeSmall(w *code.Writer, n int) { w.U8(uint8(n)) }

// writeSigned tells the numbers below 0 by the odd ones.
func writeSigned(w *code.Writer, n int64) {
	if n < 0 {
		w.Var(2*uint64(-(n+1)) + 1)
		return
	}
	w.Var(2 * uint64(n))
}

func writeFlag(w *code.Writer, yes bool) {
	if yes {
		w.U8(1)
		return
	}
	w.U8(0)
}
