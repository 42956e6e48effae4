package made

import (
	"slices"

	"turntable/api"
)

// tameShapes is shapes whose first slot holds a number, and whose second one a pointer.
var tameShapes = [...]string{"ip", "ipi", "ipp", "ipippi"}

// Tamed is a program that may be run, if the one that is given may be, with other instructions in place of most of those that end runs early: of programs by chance most runs trap behind a few instructions. What is put in later is not put in here.
func (m *Maker) Tamed(p api.Prog) api.Prog {
	out := api.Prog{}
	for k, f := range p.Funcs {
		f.Blocks = slices.Clone(f.Blocks)
		for i, block := range f.Blocks {
			f.Blocks[i] = nil
			for _, x := range block {
				if x, left := m.tame(p.Funcs[:k+1], x); left {
					f.Blocks[i] = append(f.Blocks[i], x)
				}
			}
		}
		out.Funcs = append(out.Funcs, f)
	}
	return out
}

// tame is what stands in the place of an instruction of a function that is the last one of some; false: nothing does.
func (m *Maker) tame(upTo []api.Func, x api.Instr) (api.Instr, bool) {
	if m.Intn(12) == 0 {
		return x, true
	}
	switch x.Op {
	case api.ONil, api.ONew:
		return m.object(x), true
	case api.OLoadI, api.OSlot:
		x.N = 0
	case api.OLoadP, api.OStoreP:
		x.N = 1
	case api.OStoreI:
		x.N = 0
		if m.Intn(2) == 0 {
			return api.Instr{Op: api.OOut, Id: -1, Args: x.Args[1:], At: x.At}, true
		}
	case api.OGetP:
		return m.object(x), true
	case api.OPutP:
		return x, false
	case api.OCall:
		return m.tameCall(upTo, x)
	}
	return x, true
}

// object is an instruction that makes an object in the place of one that makes a pointer.
func (m *Maker) object(x api.Instr) api.Instr {
	return api.Instr{Op: api.ONew, Id: x.Id, Name: tameShapes[m.Intn(len(tameShapes))], At: x.At}
}

// tameCall is what stands in the place of a call: those that go back to a function that may have made them would mostly never end.
func (m *Maker) tameCall(upTo []api.Func, x api.Instr) (api.Instr, bool) {
	if !slices.ContainsFunc(upTo, func(f api.Func) bool { return f.Name == x.Name }) {
		return x, true
	}
	switch x.Type {
	case api.TInt:
		return api.Instr{Op: api.OConst, Id: x.Id, N: m.number(), At: x.At}, true
	case api.TPtr:
		return m.object(x), true
	}
	return x, false
}
