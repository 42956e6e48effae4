package base

import (
	"cmp"
	"slices"

	"turntable/api"
	"turntable/ops"
)

// none is the value to which belongs what is no pointer into an object.
const none = -1

// belong is a function's pointers into objects, rising, each with that to which it belongs: what a phi makes with the value of the phi that will stand beside it, so that phis around loops may name it ahead of its being there.
func belong(f api.Func) []api.Pair {
	var pairs []api.Pair
	next := Fresh(f)
	for _, block := range f.Blocks {
		for _, x := range block {
			switch {
			case ops.Makes(x) != api.TDer:
			case joins(x):
				pairs = append(pairs, api.Pair{Der: x.Id, Base: next})
				next++
			case x.Op == api.OSlot && len(x.Args) > 0:
				pairs = append(pairs, api.Pair{Der: x.Id, Base: x.Args[0]})
			}
		}
	}
	slices.SortFunc(pairs, func(a, b api.Pair) int { return cmp.Compare(a.Der, b.Der) })
	return pairs
}

// Find is the value to which a pointer into an object belongs; below 0: none.
func Find(l []api.Pair, der int) int {
	n, there := slices.BinarySearchFunc(l, der, func(p api.Pair, der int) int { return cmp.Compare(p.Der, der) })
	if !there {
		return none
	}
	return l[n].Base
}

// With is values that rise, and those to which the pointers into objects among them belong.
func With(l []int, pairs []api.Pair) []int {
	all := slices.Clone(l)
	for _, value := range l {
		if base := Find(pairs, value); base != none {
			all = append(all, base)
		}
	}
	slices.Sort(all)
	return slices.Compact(all)
}
