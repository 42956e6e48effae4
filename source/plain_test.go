package source

import (
	"maps"
	"slices"

	"turntable/api"
)

// thing is an object as the tests know it: its letters, and what its slots hold.
type thing struct {
	letters string
	slots   []cell
}

// cell is a value as the tests know it: a number, or an object itself (not its number), and a slot of it.
type cell struct {
	n    int64
	to   *thing
	slot int
}

// teller tells what a program means once more, by functions that call themselves: what the layer answers is held against it.
type teller struct {
	p     api.Prog
	fuel  int
	depth int
	far   api.Result
}

// over is thrown where a run is over.
type over struct{}

// told is how far a program comes.
func told(p api.Prog, in []int64, fuel int) (far api.Result) {
	l := &teller{p: p, fuel: fuel}
	defer func() {
		if caught := recover(); caught != nil && caught != any(over{}) {
			panic(caught)
		}
		far = l.far
	}()
	main := l.find("main")
	var given []cell
	for i := range main.Params {
		given = append(given, cell{})
		if i < len(in) {
			given[i].n = in[i]
		}
	}
	answer := l.call(main, given)
	l.far.Ended = api.Exits
	if main.Ret == api.TInt {
		l.far.N = answer.n
	}
	return l.far
}

// find is the function of a name.
func (l *teller) find(name string) api.Func {
	return l.p.Funcs[slices.IndexFunc(l.p.Funcs, func(f api.Func) bool { return f.Name == name })]
}

// trap ends the run.
func (l *teller) trap(trap int) {
	l.far.Ended, l.far.Trap = api.Traps, trap
	panic(over{})
}

// count counts instructions that are to be done, if there is fuel left.
func (l *teller) count(instructions int) {
	if l.far.Steps >= l.fuel {
		panic(over{})
	}
	l.far.Steps += instructions
}

// call is what a function answers.
func (l *teller) call(f api.Func, given []cell) cell {
	if l.depth == 40 {
		l.trap(api.TrapDepth)
	}
	l.depth++
	defer func() { l.depth-- }()
	values := map[int]cell{}
	for i, c := range given {
		values[i] = c
	}
	from, at := -1, 0
	for {
		block := f.Blocks[at]
		first := slices.IndexFunc(block, func(x api.Instr) bool { return x.Op != api.OPhi })
		if first > 0 {
			l.count(first)
			before := maps.Clone(values)
			for _, x := range block[:first] {
				values[x.Id] = before[x.Args[slices.Index(x.To, from)]]
			}
		}
		for _, x := range block[first : len(block)-1] {
			l.count(1)
			made := l.one(values, x)
			if x.Id >= 0 {
				values[x.Id] = made
			}
		}
		l.count(1)
		from = at
		switch x := block[len(block)-1]; x.Op {
		case api.OBr:
			at = x.To[0]
		case api.OIf:
			at = x.To[1]
			if values[x.Args[0]].n != 0 {
				at = x.To[0]
			}
		case api.OFail:
			l.trap(100 + int(x.N))
		default:
			if len(x.Args) > 0 {
				return values[x.Args[0]]
			}
			return cell{}
		}
	}
}

// one is what an instruction makes that is not a block's last one.
func (l *teller) one(values map[int]cell, x api.Instr) cell {
	var taken []cell
	for _, value := range x.Args {
		taken = append(taken, values[value])
	}
	switch x.Op {
	case api.OConst:
		return cell{n: x.N}
	case api.ONil, api.OPoll, api.OMark:
		return cell{}
	case api.OSame:
		return truth(taken[0].to == taken[1].to)
	case api.ONew:
		o := &thing{letters: x.Name}
		if o.letters == "." {
			o.letters = ""
		}
		o.slots = make([]cell, len(o.letters))
		l.far.Words += len(o.letters) + 1
		return cell{to: o}
	case api.OReloc:
		return taken[0]
	case api.OOut:
		l.far.Out = append(l.far.Out, taken[0].n)
		return cell{}
	case api.OCall:
		return l.call(l.find(x.Name), taken)
	}
	if len(x.Args) == 2 && x.Op <= api.OEq {
		return l.sum(x.Op, taken[0].n, taken[1].n)
	}
	return l.object(x, taken)
}

// truth is 1 for what holds, and 0 for what does not.
func truth(holds bool) cell {
	if holds {
		return cell{n: 1}
	}
	return cell{}
}

// sum is what an operation makes of two numbers.
func (l *teller) sum(op int, a, b int64) cell {
	switch op {
	case api.OAdd:
		return cell{n: a + b}
	case api.OSub:
		return cell{n: a - b}
	case api.OMul:
		return cell{n: a * b}
	case api.OLt:
		return truth(a < b)
	case api.OEq:
		return truth(a == b)
	}
	if b == 0 {
		l.trap(api.TrapDiv)
	}
	return cell{n: a / b}
}

// object is what an instruction makes that asks an object.
func (l *teller) object(x api.Instr, taken []cell) cell {
	o, slot := taken[0].to, int(x.N)
	kind := byte('i')
	switch x.Op {
	case api.OGetI, api.OPutI:
		slot = taken[0].slot
	case api.OGetP, api.OPutP:
		slot, kind = taken[0].slot, 'p'
	case api.OLoadP, api.OStoreP:
		kind = 'p'
	}
	if o == nil {
		l.trap(api.TrapNil)
	}
	if slot >= len(o.letters) {
		l.trap(api.TrapSlot)
	}
	if x.Op == api.OSlot {
		return cell{to: o, slot: slot}
	}
	if o.letters[slot] != kind {
		l.trap(api.TrapSlot)
	}
	if len(taken) == 2 {
		o.slots[slot] = taken[1]
	}
	return o.slots[slot]
}
