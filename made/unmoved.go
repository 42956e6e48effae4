package made

import "turntable/api"

// Unmoved is a program without relocs, which may be run, if the one that is given may be: in place of what a reloc makes that is taken which it takes.
func Unmoved(p api.Prog) api.Prog {
	out := api.Prog{}
	for _, f := range p.Funcs {
		f = Bare(f)
		moved := relocs(f)
		for k, block := range f.Blocks {
			f.Blocks[k] = nil
			for _, x := range block {
				for i, value := range x.Args {
					x.Args[i] = origin(moved, value)
				}
				if x.Op != api.OReloc {
					f.Blocks[k] = append(f.Blocks[k], x)
				}
			}
		}
		out.Funcs = append(out.Funcs, f)
	}
	return out
}

// relocs is what each reloc of a function takes, by the value that it makes.
func relocs(f api.Func) map[int]int {
	moved := map[int]int{}
	for _, block := range f.Blocks {
		for _, x := range block {
			if x.Op == api.OReloc {
				moved[x.Id] = x.Args[0]
			}
		}
	}
	return moved
}

// origin is the value that was moved first, of one that was moved by any number of relocs.
func origin(moved map[int]int, value int) int {
	for {
		from, is := moved[value]
		if !is {
			return value
		}
		value = from
	}
}
