package well

import (
	"slices"

	"turntable/api"
	"turntable/ops"
)

// takes is what is wrong with what an instruction takes, once all makers are known.
func (l look) takes(at spot, x api.Instr) api.Code {
	types, code := l.wanted(x)
	if code != api.OK {
		return code
	}
	for i, value := range x.Args {
		if code := l.taken(value, types[i], l.from(at, x, i)); code != api.OK {
			return code
		}
	}
	return api.OK
}

// wanted is the types that an instruction takes, one for each of its values.
func (l look) wanted(x api.Instr) ([]int, api.Code) {
	switch x.Op {
	case api.OCall:
		return l.passed(x)
	case api.ORet:
		return l.answered(x)
	case api.OPhi, api.OReloc:
		return slices.Repeat([]int{x.Type}, len(x.Args)), api.OK
	}
	return ops.Takes(x.Op), api.OK
}

// passed is the types that a call takes, or what is wrong with it.
func (l look) passed(x api.Instr) ([]int, api.Code) {
	k := stands(l.funcs, x.Name)
	if k == none {
		return nil, api.ErrFunc
	}
	f := l.funcs[k]
	switch {
	case x.Type != f.Ret:
		return nil, api.ErrType
	case len(x.Args) != len(f.Params):
		return nil, api.ErrArgs
	}
	return f.Params, api.OK
}

// answered is the types that a ret takes: that of what the function answers, if it answers something; or what is wrong with it.
func (l look) answered(x api.Instr) ([]int, api.Code) {
	var types []int
	if l.f.Ret != api.TNone {
		types = []int{l.f.Ret}
	}
	if len(x.Args) != len(types) {
		return nil, api.ErrArgs
	}
	return types, api.OK
}

// taken is what is wrong with a value that is taken as one of a type, in a place.
func (l look) taken(value, kind int, at spot) api.Code {
	made, there := l.makers[value]
	switch {
	case !there:
		return api.ErrValue
	case l.types[value] != kind:
		return api.ErrType
	case !l.before(made, at):
		return api.ErrBefore
	}
	return api.OK
}

// from is where an instruction takes one of its values: a phi does at the end of the block from which that comes.
func (l look) from(at spot, x api.Instr, i int) spot {
	if x.Op != api.OPhi {
		return at
	}
	block := x.To[i]
	return spot{block: block, place: len(l.f.Blocks[block])}
}

// before tells whether what stands in a place is done ahead of another one on every way to that.
func (l look) before(a, b spot) bool {
	if a.block == b.block {
		return a.place < b.place
	}
	return l.tree.Ahead(a.block, b.block)
}
