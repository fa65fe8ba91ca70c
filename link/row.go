package link

// row holds anything, one behind the other, and lets go at its front.
type row[T any] struct {
	held []T
}

func (r *row[T]) len() int { return len(r.held) }

func (r *row[T]) add(x T) { r.held = append(r.held, x) }

// first tells the first n, or all, if there are fewer.
func (r *row[T]) first(n int) []T { return r.held[:min(n, len(r.held))] }

// letGo lets go of those at the front, up to the first one that is not to leave.
func (r *row[T]) letGo(leaves func(T) bool) {
	n := 0
	for n < len(r.held) && leaves(r.held[n]) {
		n++
	}
	clear(r.held[:n]) // what has left is held no longer, though its place is
	r.held = r.held[n:]
}
