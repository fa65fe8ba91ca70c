package draft

// AtNumber makes the base tell that so many of the till's acts are committed: to issue them all would take too long.
func AtNumber(d *Draft, last uint64) { d.base.Last[d.till] = last }
