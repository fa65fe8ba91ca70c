package link

// AtNumber makes a link tell that so many bodies were numbered in this session, and have left: to hand them all in would take too long.
func AtNumber(l *Link, numbered uint64) { l.numbered, l.gone = numbered, numbered }

// AtHanded makes a link tell that so many of the other's bodies were handed up in this session.
func AtHanded(l *Link, handed uint64) { l.handed = handed }
