package disk

import (
	"maps"
	"slices"

	"till/api"
)

// names tells which name leads to which file.
type names map[string]*file

// change is a name change: the file that stood under from stands under to. A file that is made has no from, a name that is removed no to: no file name is empty.
type change struct {
	from, to string
	file     *file
}

// with carries a name change out; the first one makes the map, so that a disk needs none before.
func (n names) with(c change) names {
	if n == nil {
		n = names{}
	}
	delete(n, c.from)
	if c.to != "" {
		n[c.to] = c.file
	}
	return n
}

func (n names) sorted() []string { return slices.Sorted(maps.Keys(n)) }

func fileName(name string) bool {
	if len(name) < 1 || len(name) > api.MaxName {
		return false
	}
	for i := range len(name) {
		if !fileByte(name[i]) {
			return false
		}
	}
	return true
}

func fileByte(c byte) bool {
	switch c {
	case '.', '-', '_':
		return true
	}
	return 'a' <= c && c <= 'z' || '0' <= c && c <= '9'
}
