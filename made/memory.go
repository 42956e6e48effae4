package made

import (
	"slices"

	"turntable/api"
)

// Behind is a list with other elements behind its length in its memory.
func Behind[T any](l []T, more ...T) []T {
	return append(slices.Clone(l), more...)[:len(l)]
}

// Loaded is a function of its own memory whose lists have others behind their lengths: parameters, blocks, instructions, values, labels.
func Loaded(f api.Func) api.Func {
	extra := api.Instr{Op: api.OIf, To: []int{0, 1}}
	blocks := slices.Clone(f.Blocks)
	for i, block := range blocks {
		block = slices.Clone(block)
		for j, x := range block {
			block[j].Args, block[j].To = Behind(x.Args, 0, 99), Behind(x.To, 0, 1, 2, 0)
		}
		blocks[i] = Behind(block, extra, api.Instr{Op: api.OConst})
	}
	f.Params = Behind(f.Params, api.TPtr, 9)
	f.Blocks = Behind(blocks, []api.Instr{extra}, nil)
	return f
}

// Whole is a function with nothing shared with another one, its lists as long as their memory: what lies behind them is there, too.
func Whole(f api.Func) api.Func {
	f.Params = slices.Clone(f.Params[:cap(f.Params)])
	f.Blocks = slices.Clone(f.Blocks[:cap(f.Blocks)])
	for i, block := range f.Blocks {
		block = slices.Clone(block[:cap(block)])
		for j, x := range block {
			block[j].Args, block[j].To = slices.Clone(x.Args[:cap(x.Args)]), slices.Clone(x.To[:cap(x.To)])
		}
		f.Blocks[i] = block
	}
	return f
}

// LoadedProg is a program of its own memory, whose lists have others behind their lengths.
func LoadedProg(p api.Prog) api.Prog {
	funcs := slices.Clone(p.Funcs)
	for i, f := range funcs {
		funcs[i] = Loaded(f)
	}
	return api.Prog{Funcs: Behind(funcs, api.Func{Name: "F"}, api.Func{Name: "main"})}
}

// WholeProg is a program with nothing shared with another one, its lists as long as their memory.
func WholeProg(p api.Prog) api.Prog {
	funcs := slices.Clone(p.Funcs[:cap(p.Funcs)])
	for i, f := range funcs {
		funcs[i] = Whole(f)
	}
	return api.Prog{Funcs: funcs}
}

// Fill writes something into a list, also behind its length.
func Fill[T any](l []T, x T) {
	l = l[:cap(l)]
	for i := range l {
		l[i] = x
	}
}

// Spoil writes into all lists of a function, also behind their lengths.
func Spoil(f api.Func) {
	for _, block := range f.Blocks {
		for _, x := range block {
			Fill(x.Args, 77)
			Fill(x.To, 77)
		}
		Fill(block, api.Instr{Op: 77, Id: 77})
	}
	Fill(f.Blocks, nil)
	Fill(f.Params, 77)
}

// SpoilProg writes into all lists of a program, also behind their lengths.
func SpoilProg(p api.Prog) {
	for _, f := range p.Funcs {
		Spoil(f)
	}
	Fill(p.Funcs, api.Func{Name: "main"})
}

// Bare is a function of its own memory whose lists without elements are nil: so those are the same that hold the same.
func Bare(f api.Func) api.Func {
	f.Params = bare(f.Params)
	f.Blocks = bare(f.Blocks)
	for k, block := range f.Blocks {
		block = bare(block)
		for i, x := range block {
			block[i].Args, block[i].To = bare(x.Args), bare(x.To)
		}
		f.Blocks[k] = block
	}
	return f
}

// bare is a list of its own memory, nil without elements.
func bare[T any](l []T) []T {
	if len(l) == 0 {
		return nil
	}
	return slices.Clone(l)
}
