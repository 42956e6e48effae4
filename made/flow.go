// Package made makes functions for the tests of the layers, by rules, and by chance that is the same each time. No layer calls it.
package made

import (
	"math"

	"turntable/api"
)

// Flow is a function whose blocks go to others: by its labels each ends with br, if, or ret.
func Flow(to ...[]int) api.Func {
	f := api.Func{Name: "f", Params: []int{api.TInt}}
	for _, l := range to {
		f.Blocks = append(f.Blocks, []api.Instr{ender(l)})
	}
	return f
}

// ender is an instruction that ends a block and goes to others.
func ender(to []int) api.Instr {
	x := api.Instr{Op: api.ORet, Id: -1, To: to}
	switch len(to) {
	case 1:
		x.Op = api.OBr
	case 2:
		x.Op, x.Args = api.OIf, []int{0}
	}
	return x
}

// Long is a function of as many blocks as are wanted, each of which goes where a rule says.
func Long(blocks int, rule func(k int) []int) api.Func {
	to := make([][]int, blocks)
	for k := range to {
		to[k] = rule(k)
	}
	return Flow(to...)
}

// All hands over each function of so many blocks that go to none, one, or two blocks; if both is not asked for, these two are unlike, and told in one order alone.
func All(blocks int, both bool, do func(f api.Func)) { begun(blocks, nil, both, do) }

// begun hands over each function of so many blocks whose first ones go where they are said to go.
func begun(blocks int, to [][]int, both bool, do func(f api.Func)) {
	if len(to) == blocks {
		do(Flow(to...))
		return
	}
	with := func(l ...int) { begun(blocks, append(to[:len(to):len(to)], l), both, do) }
	with()
	for a := range blocks {
		with(a)
		for b := range blocks {
			if both || a < b {
				with(a, b)
			}
		}
	}
}

// To is the labels of a block's last instruction.
func To(f api.Func, k int) []int {
	block := f.Blocks[k]
	return block[len(block)-1].To
}

// Edges is what each block of a function goes to.
func Edges(f api.Func) [][]int {
	var edges [][]int
	for k := range f.Blocks {
		edges = append(edges, To(f, k))
	}
	return edges
}

// Search is what is come to from a block on without ever standing on another one, by trying each way: what the layers answer is held against it.
func Search(f api.Func, from, without int) []bool {
	met := make([]bool, len(f.Blocks))
	var visit func(k int)
	visit = func(k int) {
		if k == without || met[k] {
			return
		}
		met[k] = true
		for _, next := range To(f, k) {
			visit(next)
		}
	}
	visit(from)
	return met
}

// Strangers is numbers that are no blocks of a function of so many.
func Strangers(blocks int) []int {
	return []int{-1, -2, -blocks, math.MinInt, math.MinInt32, blocks, blocks + 1, 2 * blocks, api.MaxBlocks + blocks, 1 << 32, 1<<32 + 1, math.MaxInt}
}
