package world

import (
	"till/api"
	"till/link"
)

// Step plays an event: what an operation was answered.
func (w *World) Step(e api.Event) (api.Told, api.Errno) {
	events := [...]func(*World, api.Event) (api.Told, api.Errno){
		api.EventNone:    (*World).none,
		api.EventDeliver: (*World).deliver,
		api.EventDrop:    (*World).drop,
		api.EventDouble:  (*World).double,
		api.EventTick:    (*World).tick,
		api.EventCrash:   (*World).crash,
		api.EventRestart: (*World).restart,
		api.EventDo:      (*World).do,
		api.EventInject:  (*World).inject,
	}
	if e.Kind < 0 || e.Kind >= len(events) {
		return w.none(e)
	}
	return events[e.Kind](w, e)
}

// played answers an event that has nothing to tell: whether it could be.
func played(could bool) (api.Told, api.Errno) {
	if !could {
		return api.Told{}, api.ErrWorldEvent
	}
	return api.Told{}, api.OK
}

func (w *World) none(api.Event) (api.Told, api.Errno) { return played(false) }

// deliver takes a message off the net, also one that nobody hears.
func (w *World) deliver(e api.Event) (api.Told, api.Errno) {
	m, ok := w.net.Take(e.Index)
	n := w.running(m.To)
	if !ok || n == nil {
		return played(ok)
	}
	return api.Told{}, n.run(e, func() api.Errno { return n.runs.Hear(m.Bytes) })
}

func (w *World) drop(e api.Event) (api.Told, api.Errno) { return played(w.net.Drop(e.Index)) }

func (w *World) double(e api.Event) (api.Told, api.Errno) { return played(w.net.Double(e.Index)) }

// tick sends what the node tells only when its power has outlived the tick: a node that has met the power off tells nothing.
func (w *World) tick(e api.Event) (api.Told, api.Errno) {
	n := w.running(e.Node)
	if n == nil {
		return played(false)
	}
	var told []api.Flight
	errno := n.run(e, func() (errno api.Errno) {
		told, errno = n.runs.Tick()
		return errno
	})
	w.send(told)
	return api.Told{}, errno
}

func (w *World) crash(e api.Event) (api.Told, api.Errno) {
	n := w.running(e.Node)
	if n == nil {
		return played(false)
	}
	n.fall(e.Picks)
	return played(true)
}

func (w *World) restart(e api.Event) (api.Told, api.Errno) {
	n := w.node(e.Node)
	if n == nil || n.runs != nil {
		return played(false)
	}
	return api.Told{}, n.run(e, func() api.Errno { return n.start(w.config, e.Node) })
}

func (w *World) do(e api.Event) (api.Told, api.Errno) {
	n := w.running(e.Node)
	if n == nil || n.till == nil {
		return played(false)
	}
	var told api.Told
	errno := n.run(e, func() (errno api.Errno) {
		told, errno = n.till.Issue(e.Act, e.Takes)
		return errno
	})
	return told, errno
}

// inject sends bytes that no node says: those of a frame would be a node's word that it has not given.
func (w *World) inject(e api.Event) (api.Told, api.Errno) {
	_, isFrame := link.DecodeFrame(e.Bytes)
	if isFrame || w.node(e.Node) == nil {
		return played(false)
	}
	w.net.Send(e.Node, e.Bytes)
	return played(true)
}
