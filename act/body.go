package act

import (
	"till/api"
	"till/code"
)

// Kinds of bodies.
const (
	BodyNone = iota
	BodyHello
	BodyAct
	BodyEntry
)

// Body is what two ends tell one another; fields that its kind does not use are zero.
type Body struct {
	Kind     int
	Position uint64
	Act      api.Act
	Entry    api.Entry
}

// Make writes a body, Read reads one.
func Make(c api.Config, x Body) ([]byte, api.Errno) {
	if errno := checkBody(c, x); errno != api.OK {
		return nil, errno
	}
	w := code.New()
	writeBody(w, x)
	return w.Out(), api.OK
}

func Read(c api.Config, b []byte) (Body, api.Errno) {
	x, ok := readWhole(b, readBody)
	if !ok || checkBody(c, x) != api.OK {
		return Body{}, api.ErrActBytes
	}
	return x, api.OK
}

func checkBody(c api.Config, x Body) api.Errno {
	switch x.Kind {
	case BodyHello:
		if x.Position <= api.MaxLog && zeroAct(x.Act) && zeroEntry(x.Entry) {
			return api.OK
		}
	case BodyAct:
		if x.Position == 0 && zeroEntry(x.Entry) {
			return Check(c, x.Act)
		}
	case BodyEntry:
		if x.Position == 0 && zeroAct(x.Act) {
			return CheckEntry(c, x.Entry)
		}
	}
	return api.ErrActBytes
}

func writeBody(w *code.Writer, x Body) {
	writeSmall(w, x.Kind)
	switch x.Kind {
	case BodyHello:
		w.Var(x.Position)
	case BodyAct:
		writeAct(w, x.Act)
	case BodyEntry:
		writeEntry(w, x.Entry)
	}
}

func readBody(r reader) Body {
	x := Body{Kind: r.small()}
	switch x.Kind {
	case BodyHello:
		x.Position = r.number(api.MaxLog)
	case BodyAct:
		x.Act = readAct(r)
	case BodyEntry:
		x.Entry = readEntry(r)
	default:
		giveUp()
	}
	return x
}
