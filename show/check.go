package show

import (
	"math"
	"slices"

	"turntable/api"
	"turntable/ops"
	"turntable/shape"
	"turntable/token"
)

// The greatest numbers that stand behind words.
const (
	mostLabel = api.MaxBlocks - 1
	mostSlot  = api.MaxSlots - 1
	mostTrap  = 255
)

// noValue is the Id of an instruction that makes no value.
const noValue = -1

// Check looks whether an instruction may be written: what it has is what its operation has.
func Check(x api.Instr) api.Code {
	switch {
	case !operation(x.Op) || !ops.May(x.Op, x.Type):
		return api.ErrWord
	case !numbered(x):
		return api.ErrValue
	case !counted(x):
		return api.ErrArgs
	case !ranged(x):
		return api.ErrRange
	case slices.ContainsFunc(x.Args, beyond(api.MaxValue)):
		return api.ErrValue
	case slices.ContainsFunc(x.To, beyond(mostLabel)):
		return api.ErrLabel
	}
	return named(x)
}

// Whole looks whether a program may be written, what is wrong first, and at which function.
func Whole(p api.Prog) api.Err {
	met := 0
	for i, f := range p.Funcs {
		if i == api.MaxFuncs {
			return api.Err{Code: api.ErrLimit, At: i}
		}
		code := head(f)
		if code == api.OK {
			met, code = body(f, met)
		}
		if code != api.OK {
			return api.Err{Code: code, At: i}
		}
	}
	return api.Err{}
}

// head looks whether a function may be written, but for its instructions.
func head(f api.Func) api.Code {
	switch {
	case len(f.Params) > api.MaxParams || len(f.Blocks) > api.MaxBlocks:
		return api.ErrLimit
	case !token.Name(f.Name):
		return api.ErrName
	case f.Ret != api.TNone && !passed(f.Ret) || slices.ContainsFunc(f.Params, func(t int) bool { return !passed(t) }):
		return api.ErrType
	}
	return api.OK
}

// body looks whether a function's instructions may be written, behind so many of the functions ahead of it; how many there are then is told beside.
func body(f api.Func, met int) (int, api.Code) {
	for _, block := range f.Blocks {
		for _, x := range block {
			if met == api.MaxInstrs {
				return met, api.ErrLimit
			}
			met++
			if code := Check(x); code != api.OK {
				return met, code
			}
		}
	}
	return met, api.OK
}

// passed tells whether values of a type are passed to functions, and answered.
func passed(t int) bool { return t == api.TInt || t == api.TPtr }

// operation tells whether there is such an operation: ops.May holds for numbers that are none, too.
func operation(op int) bool { return op >= api.OConst && op <= api.OFail }

// numbered tells whether an instruction has the number of a value just if it makes one.
func numbered(x api.Instr) bool {
	if ops.Makes(x) == api.TNone {
		return x.Id == noValue
	}
	return !beyond(api.MaxValue)(x.Id)
}

// beyond is what tells whether a number is not from nought up to a greatest one.
func beyond(most int) func(int) bool {
	return func(n int) bool { return n < 0 || n > most }
}

// counted tells whether an instruction has as many values and labels as its operation has.
func counted(x api.Instr) bool {
	values, labels := len(x.Args), len(x.To)
	switch x.Op {
	case api.OPhi:
		return values == labels && values > 0
	case api.OCall:
		return labels == 0
	case api.OReloc:
		return values == 1 && labels == 0
	case api.OBr:
		return values == 0 && labels == 1
	case api.OIf:
		return values == 1 && labels == 2
	case api.ORet:
		return values <= 1 && labels == 0
	}
	return values == len(ops.Takes(x.Op)) && labels == 0
}

// ranged tells whether an instruction's number is one that may stand there; where none may, it is nought.
func ranged(x api.Instr) bool {
	least, most := int64(0), int64(0)
	switch x.Op {
	case api.OConst:
		least, most = math.MinInt64, math.MaxInt64
	case api.OLoadI, api.OLoadP, api.OSlot, api.OStoreI, api.OStoreP:
		most = mostSlot
	case api.OCall, api.OPoll, api.OReloc:
		most = api.MaxValue
	case api.OFail:
		most = mostTrap
	}
	return x.N >= least && x.N <= most
}

// named is what is wrong with an instruction's name: letters of a shape, the name of a function, or none.
func named(x api.Instr) api.Code {
	fits := x.Name == ""
	switch x.Op {
	case api.ONew:
		_, code := shape.Parse(x.Name)
		return code
	case api.OCall:
		fits = token.Name(x.Name)
	}
	if !fits {
		return api.ErrName
	}
	return api.OK
}
