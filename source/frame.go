package source

import (
	"slices"

	"turntable/api"
	"turntable/ops"
)

// nowhere is the block from which a function came that is in its first one.
const nowhere = -1

// frame is a function at work: its values, the block in which it is, which instruction of that is the next one, and the block from which it came.
type frame struct {
	f      api.Func
	values map[int]api.Val
	block  int
	place  int
	from   int
}

// begun is a function that begins, with what it was given.
func begun(f api.Func, given []api.Val) *frame {
	values := make(map[int]api.Val)
	for value, v := range given {
		values[value] = v
	}
	return &frame{f: f, values: values, from: nowhere}
}

// next is the instruction that is the next one; while a call goes on it is that.
func (f *frame) next() api.Instr { return f.f.Blocks[f.block][f.place] }

// phis is the phis of a block at whose beginning the function is; else none.
func (f *frame) phis() []api.Instr {
	if f.place > 0 {
		return nil
	}
	block := f.f.Blocks[f.block]
	count := 0
	for count < len(block) && block[count].Op == api.OPhi {
		count++
	}
	return block[:count]
}

// join has phis take their values. None is kept ahead of all being taken: a phi may take what another one of them made the time before.
func (f *frame) join(phis []api.Instr) {
	taken := make([]api.Val, len(phis))
	for i, x := range phis {
		taken[i] = f.values[x.Args[slices.Index(x.To, f.from)]]
	}
	for i, x := range phis {
		f.values[x.Id] = taken[i]
	}
	f.place = len(phis)
}

// pass goes on behind an instruction, which made something, if it makes anything.
func (f *frame) pass(made api.Val) {
	if x := f.next(); ops.Makes(x) != api.TNone {
		f.values[x.Id] = made
	}
	f.place++
}

// cross goes to the beginning of a block.
func (f *frame) cross(block int) { f.from, f.block, f.place = f.block, block, 0 }

// takes is what an instruction takes.
func (f *frame) takes(x api.Instr) []api.Val {
	taken := make([]api.Val, len(x.Args))
	for i, value := range x.Args {
		taken[i] = f.values[value]
	}
	return taken
}
