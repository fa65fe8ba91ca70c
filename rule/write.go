package rule

import (
	"slices"

	"till/api"
	"till/sum"
)

func judgeWrite(s api.State, a api.Act) (int, []api.Line, []api.Set) {
	switch {
	case a.Sure && Holds(s, a.Till, a.Lines):
		return api.Applied, slices.Clone(a.Lines), nil
	case a.Sure:
		return api.Rejected, nil, nil
	case Guarded(s, a.Guards) && Free(s, a.Lines) && Open(s, a.Sets):
		return api.Applied, slices.Clone(a.Lines), raised(s, a.Sets)
	}
	return merge(s, a)
}

// merge tells what is made of a write that can't be carried out as it stands.
func merge(s api.State, a api.Act) (int, []api.Line, []api.Set) {
	switch a.Merge.Kind {
	case api.MergeClamp:
		made, sets := cut(s, a.Lines), raised(s, wanted(s, a.Sets))
		if len(made)+len(sets) > 0 {
			return api.Merged, made, sets
		}
	case api.MergeOther:
		if Free(s, a.Merge.Other) {
			return api.Merged, slices.Clone(a.Merge.Other), nil
		}
	case api.MergeForce:
		if Free(s, a.Lines) && Open(s, a.Sets) {
			return api.Merged, slices.Clone(a.Lines), raised(s, a.Sets)
		}
	}
	return api.Rejected, nil, nil
}

// cut tells what MergeClamp makes of lines.
func cut(s api.State, lines []api.Line) []api.Line {
	taken := map[kind]int64{}
	take := func(k kind, amount int64) int64 {
		// What is taken of one way is free of the other.
		n := sum.Cut(amount, free(s, k)-taken[k]+taken[k.other()])
		taken[k] += n
		return n
	}
	var made []api.Line
	for k, amount := range each(lines) {
		if n := take(k, amount); n != 0 {
			made = append(made, k.line(n))
		}
	}
	return made
}

// wanted are the settings that MergeClamp makes: by their versions, and because their prices are open.
func wanted(s api.State, sets []api.Set) []api.Set {
	var out []api.Set
	for _, x := range sets {
		price, _ := at(s.Prices, x.Price)
		if isOpen(s, x.Price) && (x.Version == -1 || int64(x.Version) == price.Version) {
			out = append(out, x)
		}
	}
	return out
}

// raised are settings of open prices, each with the version that its price has behind it.
func raised(s api.State, sets []api.Set) []api.Set {
	var out []api.Set
	for _, x := range sets {
		price, _ := at(s.Prices, x.Price)
		x.Version = int(price.Version) + 1
		out = append(out, x)
	}
	return out
}
