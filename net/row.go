package net

import (
	"slices"

	"till/api"
)

// message keeps its bytes as a string: nobody can change them, so a message and its double may share them unseen.
type message struct {
	to    int
	bytes string
}

// flight tells a message in new memory.
func (m message) flight() api.Flight {
	return api.Flight{To: m.to, Bytes: []byte(m.bytes)}
}

// row is the messages in the order in which they were sent and doubled.
type row struct {
	room     int
	messages []message
}

// Len tells how many there are.
func (r *row) Len() int { return len(r.messages) }

// Look tells the message of an index, Take takes it out, Drop too, Double adds another one like it.
func (r *row) Look(i int) (api.Flight, bool) {
	if !r.has(i) {
		return api.Flight{}, false
	}
	return r.messages[i].flight(), true
}

func (r *row) Take(i int) (api.Flight, bool) {
	taken, ok := r.Look(i)
	return taken, ok && r.Drop(i)
}

func (r *row) Drop(i int) bool {
	if !r.has(i) {
		return false
	}
	r.messages = slices.Delete(r.messages, i, i+1)
	return true
}

func (r *row) Double(i int) bool {
	return r.has(i) && r.add(r.messages[i])
}

// has tells whether there is such a place.
func (r *row) has(i int) bool { return 0 <= i && i < len(r.messages) }

// add puts a message at the end, if there is room.
func (r *row) add(m message) bool {
	if len(r.messages) >= r.room {
		return false
	}
	r.messages = append(r.messages, m)
	return true
}
