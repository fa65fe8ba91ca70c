package disk

import "slices"

// safeBytes are the bytes of a file that no crash takes.
type safeBytes []byte

// file is its safe bytes, the units behind them, and how many bytes are seen.
type file struct {
	safeBytes
	units []unit
	size  int
}

// unit is a change of a file that is not safe yet: the byte that was appended, or, below 0, a cut. There is one for each byte, so they are kept small.
type unit int32

func cutTo(n int) unit { return unit(-1 - n) }

// length tells to how many bytes a unit cuts, if it is a cut.
func (u unit) length() (int, bool) { return int(-1 - u), u < 0 }

func loaded(b []byte) *file {
	return &file{safeBytes: copied(b), size: len(b)}
}

func (f *file) add(b []byte) {
	f.units = slices.Grow(f.units, len(b))
	for _, c := range b {
		f.units = append(f.units, unit(c))
	}
	f.size += len(b)
}

func (f *file) cut(n int) {
	if n < f.size {
		f.units = append(f.units, cutTo(n))
		f.size = n
	}
}

// settle makes all units safe.
func (f *file) settle() {
	f.safeBytes = f.carry(f.units)
	f.units = nil
}

// left tells what the file is if so many of its units are carried out.
func (f *file) left(kept int) []byte {
	return copied(f.safeBytes).carry(f.units[:kept])
}

// carry carries units out in the place of the bytes: whoever calls it has no other use for them.
func (b safeBytes) carry(units []unit) safeBytes {
	for _, u := range units {
		if n, ok := u.length(); ok {
			b = b[:n]
		} else {
			b = append(b, byte(u))
		}
	}
	return b
}

func copied(b []byte) safeBytes {
	own := make(safeBytes, len(b))
	copy(own, b)
	return own
}
