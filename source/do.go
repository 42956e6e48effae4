package source

import (
	"turntable/api"
	"turntable/arith"
	"turntable/ops"
	"turntable/shape"
)

// do does an instruction, and tells how it goes on.
func (r *Run) do(f *frame, x api.Instr) way {
	taken := f.takes(x)
	switch x.Op {
	case api.OBr:
		return across{x.To[0]}
	case api.OIf:
		return fork(x, taken[0].N != 0)
	case api.OCall:
		return into{x.Name, taken}
	case api.ORet:
		return answered(taken)
	case api.OFail:
		return trapped{api.TrapFail + int(x.N)}
	}
	if ops.Reads(x.Op) || ops.Writes(x.Op) || x.Op == api.OSlot {
		return r.ask(x, taken)
	}
	return r.simple(x, taken)
}

// fork is the first of two blocks, if something holds, else the second one.
func fork(x api.Instr, holds bool) way {
	if holds {
		return across{x.To[0]}
	}
	return across{x.To[1]}
}

// answered is out of a function with what it answers, if that is anything.
func answered(taken []api.Val) way {
	if len(taken) == 0 {
		return out{}
	}
	return out{taken[0]}
}

// simple does an instruction that asks no object, and goes nowhere else.
func (r *Run) simple(x api.Instr, taken []api.Val) way {
	switch x.Op {
	case api.OConst:
		return number(x.N)
	case api.ONil:
		return pointer(0)
	case api.OSame:
		same, _ := arith.Do(api.OEq, taken[0].N, taken[1].N)
		return number(same)
	case api.ONew:
		// The program may be run: so these letters are a shape.
		letters, _ := shape.Parse(x.Name)
		return pointer(int64(r.objects.Make(letters)))
	case api.OReloc:
		return behind{taken[0]}
	case api.OOut:
		r.result.Out = append(r.result.Out, taken[0].N)
	}
	if arith.Is(x.Op) {
		made, trap := arith.Do(x.Op, taken[0].N, taken[1].N)
		return unless(trap, number(made))
	}
	return behind{}
}

// ask does an instruction that asks an object, by a pointer to it, and a slot, or by a pointer into it.
func (r *Run) ask(x api.Instr, taken []api.Val) way {
	object, slot := int(taken[0].N), int(x.N)
	if taken[0].Type == api.TDer {
		slot = taken[0].Slot
	}
	switch x.Op {
	case api.OLoadI, api.OGetI:
		n, trap := r.objects.Load(object, slot, false)
		return unless(trap, number(n))
	case api.OLoadP, api.OGetP:
		n, trap := r.objects.Load(object, slot, true)
		return unless(trap, pointer(n))
	case api.OStoreI, api.OPutI:
		return unless(r.objects.Store(object, slot, false, taken[1].N), behind{})
	case api.OStoreP, api.OPutP:
		return unless(r.objects.Store(object, slot, true, taken[1].N), behind{})
	}
	// Of all that asks objects this leaves slot alone.
	return unless(r.objects.Slot(object, slot), behind{api.Val{Type: api.TDer, N: int64(object), Slot: slot}})
}

// unless is a way on, unless there is a trap.
func unless(trap int, on way) way {
	if trap != 0 {
		return trapped{trap}
	}
	return on
}

// number goes on behind an instruction that made a number.
func number(n int64) way { return behind{api.Val{Type: api.TInt, N: n}} }

// pointer goes on behind an instruction that made a pointer to an object.
func pointer(object int64) way { return behind{api.Val{Type: api.TPtr, N: object}} }
