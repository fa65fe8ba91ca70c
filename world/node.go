package world

import (
	"till/api"
	"till/device"
	"till/disk"
	"till/server"
)

// runner is a node that is up: who hears and ticks.
type runner interface {
	Hear(b []byte) api.Errno
	Tick() ([]api.Flight, api.Errno)
	Life() uint64
}

// node is a till or the server: up, or its disk alone.
type node struct {
	disk   *disk.Disk
	life   uint64 // the last one in which it has been up
	runs   runner // nil: it is down
	till   *device.Device
	server *server.Server // that which runs: one of the two
}

// build starts a node over an empty disk.
func (n *node) build(c api.Config, number int) api.Errno {
	d, errno := disk.New(api.NodeRoom)
	if errno != api.OK {
		return errno
	}
	n.disk = d
	return n.start(c, number)
}

// start begins a node's next life over its disk.
func (n *node) start(c api.Config, number int) api.Errno {
	var errno api.Errno
	if number < c.Tills {
		n.till, errno = device.Start(c, number, n.disk)
		n.runs = n.till
	} else {
		n.server, errno = server.Start(c, n.disk)
		n.runs = n.server
	}
	if errno != api.OK {
		n.stop()
		return errno
	}
	n.life = n.runs.Life()
	return api.OK
}

// stop leaves a node its disk alone.
func (n *node) stop() { *n = node{disk: n.disk, life: n.life} }

// run carries out what an event asks of a node. If its power has gone off in that, it is down, and what was refused for it is no answer.
func (n *node) run(e api.Event, call func() api.Errno) api.Errno {
	errno := n.underPlan(e.Off, call)
	if n.powerIsOff() {
		n.fall(e.Picks)
		return api.OK
	}
	return errno
}

// underPlan makes a call in which the power goes off at a stroke of the disk, if there are so many (below 1: it stays on). The plan is forgotten however the call ends, so that no later event meets it.
func (n *node) underPlan(off int, call func() api.Errno) api.Errno {
	if off >= 1 {
		n.disk.Plan(api.Plan{Off: off})
		defer n.disk.Plan(api.Plan{})
	}
	return call()
}

func (n *node) powerIsOff() bool {
	_, errno := n.disk.List()
	return errno == api.ErrDiskOff
}

// fall takes a node's power away: its disk is a new one, with what the picks leave. (They may leave more than there was room for: what was removed, and what was written in its place.)
func (n *node) fall(picks []int) {
	img := n.disk.Crash(picks)
	size := 0
	for _, file := range img {
		size += len(file.Data)
	}
	n.disk, _ = disk.Load(img, max(size, api.NodeRoom))
	n.stop()
}
