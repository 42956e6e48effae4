package base

import (
	"slices"

	"turntable/api"
	"turntable/made"
)

// joiner puts more phis of pointers into objects into a function: which block stands ahead of which, and in which block each such pointer is made.
type joiner struct {
	*made.Maker
	f     api.Func
	ahead [][]bool
	ders  []int
	where []int
}

// joined is a function that may be run with more phis of pointers into objects, if the first block makes one: so there is one at the end of every block. Their values are not made in their order.
func joined(m *made.Maker, f api.Func) api.Func {
	j := joiner{Maker: m, f: made.Bare(f), ahead: made.Ahead(f)}
	for k, block := range f.Blocks {
		for _, x := range block {
			if x.Op == api.OSlot || x.Type == api.TDer {
				j.keep(k, x.Id)
			}
		}
	}
	if !slices.Contains(j.where, 0) {
		return f
	}
	var blocks []int
	for k := range len(f.Blocks) - 1 {
		blocks = append(blocks, slices.Repeat([]int{k + 1}, m.Intn(4))...)
	}
	least := greatest(f) + 1
	if least+len(blocks) > api.MaxValue/2 {
		return f
	}
	for i, n := range m.Perm(len(blocks)) {
		j.put(blocks[i], least+n)
	}
	for k := range j.f.Blocks {
		j.join(k, least)
	}
	return j.f
}

// keep notes a pointer into an object, and in which block it is made.
func (j *joiner) keep(block, value int) {
	j.ders, j.where = append(j.ders, value), append(j.where, block)
}

// put puts a phi anywhere among a block's phis. What it takes is told later: it may be made by a phi that is put in later.
func (j *joiner) put(block, value int) {
	phis := 0
	for j.f.Blocks[block][phis].Op == api.OPhi {
		phis++
	}
	x := api.Instr{Op: api.OPhi, Id: value, Type: api.TDer, At: 9000 + j.Intn(99)}
	j.f.Blocks[block] = slices.Insert(j.f.Blocks[block], j.Intn(phis+1), x)
	j.keep(block, value)
}

// join tells those of a block's phis what they take whose values are new.
func (j *joiner) join(block, least int) {
	from := made.From(made.Edges(j.f), block)
	for i, x := range j.f.Blocks[block] {
		if x.Op != api.OPhi || x.Id < least {
			continue
		}
		x.To = j.Shuffled(from)
		for _, k := range x.To {
			x.Args = append(x.Args, j.pick(k))
		}
		j.f.Blocks[block][i] = x
	}
}

// pick is a pointer into an object that there is at the end of a block.
func (j *joiner) pick(block int) int {
	var fits []int
	for i, value := range j.ders {
		if j.ahead[j.where[i]][block] {
			fits = append(fits, value)
		}
	}
	return j.One(fits)
}
