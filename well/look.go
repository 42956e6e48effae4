package well

import (
	"turntable/api"
	"turntable/dom"
	"turntable/graph"
	"turntable/ops"
)

// spot is a place in a function: which block, and behind how many of its instructions.
type spot struct{ block, place int }

// look is a function that is looked at among others, and what is known of it: the blocks that come to each block, what stands ahead of what, the values' types, and where those that were met are made.
type look struct {
	funcs  []api.Func
	f      api.Func
	source bool
	preds  [][]int
	tree   *dom.Tree
	types  map[int]int
	makers map[int]spot
}

// function is what is wrong first with a function that may be written. It is gone through twice: a phi takes what is made behind it.
func function(funcs []api.Func, f api.Func, source bool) api.Err {
	if code := flow(f); code != api.OK {
		return api.Err{Code: code, At: f.At}
	}
	l := look{funcs: funcs, f: f, source: source, preds: graph.Preds(f), tree: dom.Of(f), types: Types(f), makers: make(map[int]spot)}
	for value := range f.Params {
		// Block 0 stands ahead of all blocks, and this is ahead of its first instruction.
		l.makers[value] = spot{block: 0, place: -1}
	}
	if e := l.each(l.makes); e.Code != api.OK {
		return e
	}
	return l.each(l.takes)
}

// flow is what is wrong with how a function's blocks follow each other.
func flow(f api.Func) api.Code {
	if e := graph.Shaped(f); e.Code != api.OK {
		return e.Code
	}
	if len(graph.Preds(f)[0]) > 0 || len(graph.Order(f)) < len(f.Blocks) {
		return api.ErrReach
	}
	return api.OK
}

// each asks something of each instruction, up to the first one with which something is wrong.
func (l look) each(ask func(at spot, x api.Instr) api.Code) api.Err {
	for k, block := range l.f.Blocks {
		for i, x := range block {
			if code := ask(spot{block: k, place: i}, x); code != api.OK {
				return api.Err{Code: code, At: x.At}
			}
		}
	}
	return api.Err{}
}

// makes is what is wrong with an instruction whatever it takes; where it makes its value is known from there on.
func (l look) makes(at spot, x api.Instr) api.Code {
	if ops.Makes(x) != api.TNone {
		if _, twice := l.makers[x.Id]; twice {
			return api.ErrTwice
		}
		l.makers[x.Id] = at
	}
	switch {
	case x.Op == api.OPhi && !l.joins(at, x.To):
		return api.ErrPhi
	case l.source && later(x):
		return api.ErrWord
	}
	return api.OK
}

// joins tells whether a phi may stand in a place, and names just the blocks that come to its block, each once.
func (l look) joins(at spot, named []int) bool {
	if at.place > 0 && l.f.Blocks[at.block][at.place-1].Op != api.OPhi {
		return false
	}
	come := make(map[int]struct{})
	for _, from := range l.preds[at.block] {
		come[from] = struct{}{}
	}
	for _, from := range named {
		if _, left := come[from]; !left {
			return false
		}
		delete(come, from)
	}
	return len(come) == 0
}

// later tells whether an instruction is one that is put in later.
func later(x api.Instr) bool {
	switch x.Op {
	case api.OPoll, api.OReloc, api.OMark:
		return true
	}
	return x.Op == api.OCall && x.N != 0
}
