package made

import (
	"slices"

	"turntable/api"
)

// Behind is a list with other elements behind its length in its memory.
func Behind[T any](l []T, more ...T) []T {
	return append(slices.Clone(l), more...)[:len(l)]
}

// Loaded is a function of its own memory whose lists have others behind their lengths: blocks, instructions, labels.
func Loaded(f api.Func) api.Func {
	extra := api.Instr{Op: api.OIf, To: []int{0, 1}}
	blocks := slices.Clone(f.Blocks)
	for i, block := range blocks {
		block = slices.Clone(block)
		for j, x := range block {
			block[j].To = Behind(x.To, 0, 1, 2, 0)
		}
		blocks[i] = Behind(block, extra, api.Instr{Op: api.OConst})
	}
	f.Blocks = Behind(blocks, []api.Instr{extra}, nil)
	return f
}

// Whole is a function with nothing shared with another one, its lists as long as their memory: what lies behind them is there, too.
func Whole(f api.Func) api.Func {
	f.Blocks = slices.Clone(f.Blocks[:cap(f.Blocks)])
	for i, block := range f.Blocks {
		block = slices.Clone(block[:cap(block)])
		for j, x := range block {
			block[j].To = slices.Clone(x.To[:cap(x.To)])
		}
		f.Blocks[i] = block
	}
	return f
}
