package share

// Lease runs for some ticks behind each Hear.
type Lease struct {
	ticks, left int
}

// NewLease makes one that doesn't run.
func NewLease(ticks int) *Lease { return &Lease{ticks: max(ticks, 0)} }

// Hear lets it run anew, Tick counts one on.
func (l *Lease) Hear() { l.left = l.ticks }

func (l *Lease) Tick() { l.left = max(l.left-1, 0) }

// Left tells for how many ticks it still runs, Runs whether it does.
func (l *Lease) Left() int { return l.left }

func (l *Lease) Runs() bool { return l.left > 0 }
