package effect

import (
	"strings"

	"turntable/api"
	"turntable/made"
)

// left is letters by chance of what is left out of a function: those of what may be done beside, c for calls, and often all.
func left(m *made.Maker) string {
	if m.Intn(4) == 0 {
		return "rwmtgc"
	}
	text := ""
	for _, letter := range []string{"r", "w", "m", "t", "g", "c"} {
		if m.Intn(2) == 0 {
			text += letter
		}
	}
	return text
}

// without is a function without what some letters tell, which may be run, if the one that is given may be. What made values is replaced by what makes others; pointers into objects, which trap where they are made, are left out with all that takes them.
func without(f api.Func, letters string) api.Func {
	f = made.Bare(f)
	s := sparse{f: f, letters: letters}
	for k, block := range f.Blocks {
		var l []api.Instr
		for _, x := range block {
			l = append(l, s.instead(x)...)
		}
		f.Blocks[k] = l
	}
	return f
}

// sparse is a function of which things are left out.
type sparse struct {
	f       api.Func
	letters string
}

// lacks tells whether a thing is left out.
func (s sparse) lacks(letter string) bool { return strings.Contains(s.letters, letter) }

// instead is what stands in the place of an instruction.
func (s sparse) instead(x api.Instr) []api.Instr {
	traps := s.lacks("t")
	switch x.Op {
	case api.OLoadI, api.OLoadP, api.OGetI, api.OGetP:
		if s.lacks("r") || traps {
			return s.other(x)
		}
	case api.OStoreI, api.OStoreP, api.OPutI, api.OPutP:
		if s.lacks("w") || traps {
			return nil
		}
	case api.ONew:
		if s.lacks("m") {
			return s.other(x)
		}
	case api.OOut:
		if s.lacks("g") {
			return nil
		}
	case api.OCall:
		if s.lacks("c") || traps {
			return s.other(x)
		}
	case api.ODiv:
		if traps {
			x.Op = api.OMul
		}
	case api.OSlot, api.OPhi, api.OReloc:
		if traps && (x.Op == api.OSlot || x.Type == api.TDer) {
			return nil
		}
	case api.OFail:
		if traps {
			return s.leave(x)
		}
	}
	return []api.Instr{x}
}

// other is an instruction that does nothing beside, and makes a value of the same type, if one is made.
func (s sparse) other(x api.Instr) []api.Instr {
	switch {
	case x.Id < 0:
		return nil
	case x.Op == api.OLoadP || x.Op == api.OGetP || x.Op == api.ONew || x.Type == api.TPtr:
		return []api.Instr{{Op: api.ONil, Id: x.Id, At: x.At}}
	}
	return []api.Instr{{Op: api.OConst, Id: x.Id, N: 3, At: x.At}}
}

// leave is a ret in the place of a fail.
func (s sparse) leave(x api.Instr) []api.Instr {
	ret := api.Instr{Op: api.ORet, Id: -1, At: x.At}
	switch s.f.Ret {
	case api.TNone:
		return []api.Instr{ret}
	case api.TPtr:
		x.Op, x.N = api.ONil, 0
	default:
		x.Op = api.OConst
	}
	x.Id = fresh(x.At)
	ret.Args = []int{x.Id}
	return []api.Instr{x, ret}
}

// fresh is a value that nobody makes: functions by chance have the least values that there may be, and the greatest ones; of those between them each place has its own.
func fresh(at int) int { return api.MaxValue/2 + at }
