package shop

import (
	"slices"

	"till/api"
	"till/text"
)

// maxNumber is the greatest number that a line may name.
const maxNumber = 1 << 40

// reader reads the words of a line, one by one. It throws what the line lacks; only a name that nothing has is noted till the end, as a line that is none is refused for that, whatever it names.
type reader struct {
	config  api.Config
	words   []string // those that have not been read yet
	unknown bool     // there was a name that nothing has
}

func (r *reader) more() bool { return len(r.words) > 0 }

func (r *reader) next() string {
	if !r.more() {
		panic(api.ErrShopLine)
	}
	word := r.words[0]
	r.words = r.words[1:]
	return word
}

// end is where a line must be read to ahead of carrying it out.
func (r *reader) end() {
	if r.more() {
		panic(api.ErrShopLine)
	}
	if r.unknown {
		panic(api.ErrShopName)
	}
}

func (r *reader) command() command {
	row, ok := commands()[r.next()]
	if !ok {
		panic(api.ErrShopLine)
	}
	return row
}

// choice reads one of some words, and tells which.
func (r *reader) choice(words ...string) int {
	i := slices.Index(words, r.next())
	if i < 0 {
		panic(api.ErrShopLine)
	}
	return i
}

func (r *reader) whole() int64 {
	n, errno := text.Whole(r.next())
	if errno != api.OK {
		panic(api.ErrShopLine)
	}
	return n
}

func (r *reader) amount() int64 {
	n, errno := text.Amount(r.next())
	if errno != api.OK {
		panic(api.ErrShopLine)
	}
	return n
}

// number reads one that is not below the least.
func (r *reader) number(least int64) int64 {
	n := r.whole()
	if n < least || n > maxNumber {
		panic(api.ErrShopLine)
	}
	return n
}

func (r *reader) place() int { return int(r.number(0)) }

// known is the index of something among so many.
func (r *reader) known(i, many int) int {
	if i < 0 || i >= many {
		r.unknown = true
	}
	return i
}

func (r *reader) till() int { return r.known(r.place(), r.config.Tills) }

// node reads a till or the word for the server, which has no number here.
func (r *reader) node() int {
	if r.more() && r.words[0] == server {
		r.next()
		return r.config.Tills
	}
	return r.till()
}

func (r *reader) item() int {
	name := text.Fold(r.next())
	i := slices.IndexFunc(r.config.Counters, func(c api.Counter) bool { return text.Fold(c.Name) == name })
	return r.known(i, len(r.config.Counters))
}

func (r *reader) price() int {
	name := text.Fold(r.next())
	i := slices.IndexFunc(r.config.Prices, func(p api.Price) bool { return text.Fold(p.Name) == name })
	return r.known(i, len(r.config.Prices))
}

// line reads an item and how many of it are taken or, with the sign 1, brought.
func (r *reader) line(sign int64) api.Line {
	item, n := r.item(), r.number(1)
	return api.Line{Counter: item, Change: sign * n}
}

// right reads an item, how many rights, and their way: the words stand in the order of the ways' numbers.
func (r *reader) right() api.Right {
	item, n, way := r.item(), r.number(1), r.choice("down", "up")
	return api.Right{Counter: item, Way: way, N: n}
}

// takes reads what the caller takes, if the line says so: the words stand in the order of their numbers.
func (r *reader) takes() int {
	if !r.more() {
		return api.Best
	}
	return r.choice("loose", "best", "sure")
}

// merge reads what is done with a price that somebody else has set.
func (r *reader) merge() api.Merge {
	if !r.more() {
		return api.Merge{Kind: api.MergeNone}
	}
	r.choice("anyhow")
	return api.Merge{Kind: api.MergeForce}
}
