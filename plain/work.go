package plain

import (
	"maps"
	"slices"

	"turntable/api"
)

// work is a function at work: its values, and who is told of them.
type work struct {
	*teller
	f      api.Func
	values map[int]Cell
	seen   Seen
}

// through does a block's instructions, that was come to from another one, and answers its last one.
func (w *work) through(from, at int) api.Instr {
	block := w.f.Blocks[at]
	first := slices.IndexFunc(block, func(x api.Instr) bool { return x.Op != api.OPhi })
	if first > 0 {
		w.join(block[:first], from)
	}
	last := len(block) - 1
	for _, x := range block[first:last] {
		w.count(1)
		if made := w.one(x); x.Id >= 0 {
			w.values[x.Id] = made
			w.seen([]int{x.Id}, w.values)
		}
	}
	w.count(1)
	return block[last]
}

// join has a block's phis take their values, all at once.
func (w *work) join(phis []api.Instr, from int) {
	w.count(len(phis))
	before := maps.Clone(w.values)
	var made []int
	for _, x := range phis {
		w.values[x.Id] = before[x.Args[slices.Index(x.To, from)]]
		made = append(made, x.Id)
	}
	w.seen(made, w.values)
}

// one is what an instruction makes that is not a block's last one.
func (w *work) one(x api.Instr) Cell {
	var taken []Cell
	for _, value := range x.Args {
		taken = append(taken, w.values[value])
	}
	switch x.Op {
	case api.OConst:
		return Cell{N: x.N}
	case api.ONil, api.OPoll, api.OMark:
		return Cell{}
	case api.OSame:
		return truth(taken[0].To == taken[1].To)
	case api.ONew:
		return w.object(x.Name)
	case api.OReloc:
		return taken[0]
	case api.OOut:
		w.note(func(e *api.Effect) { e.Gives = true })
		w.far.Out = append(w.far.Out, taken[0].N)
		return Cell{}
	case api.OCall:
		return w.call(w.find(x.Name), taken)
	}
	if len(x.Args) == 2 && x.Op <= api.OEq {
		return w.sum(x.Op, taken[0].N, taken[1].N)
	}
	return w.ask(x, taken)
}

// truth is 1 for what holds, and 0 for what does not.
func truth(holds bool) Cell {
	if holds {
		return Cell{N: 1}
	}
	return Cell{}
}

// object is a new object of some letters.
func (w *work) object(letters string) Cell {
	if letters == "." {
		letters = ""
	}
	w.note(func(e *api.Effect) { e.Makes = true })
	w.far.Words += len(letters) + 1
	return Cell{To: &Thing{Letters: letters, Slots: make([]Cell, len(letters))}}
}

// sum is what an operation makes of two numbers.
func (w *work) sum(op int, a, b int64) Cell {
	switch op {
	case api.OAdd:
		return Cell{N: a + b}
	case api.OSub:
		return Cell{N: a - b}
	case api.OMul:
		return Cell{N: a * b}
	case api.OLt:
		return truth(a < b)
	case api.OEq:
		return truth(a == b)
	}
	if b == 0 {
		w.trap(api.TrapDiv)
	}
	return Cell{N: a / b}
}

// ask is what an instruction makes that asks an object.
func (w *work) ask(x api.Instr, taken []Cell) Cell {
	o, slot := taken[0].To, int(x.N)
	kind := byte('i')
	switch x.Op {
	case api.OGetI, api.OPutI:
		slot = taken[0].Slot
	case api.OGetP, api.OPutP:
		slot, kind = taken[0].Slot, 'p'
	case api.OLoadP, api.OStoreP:
		kind = 'p'
	}
	if o == nil {
		w.trap(api.TrapNil)
	}
	if slot >= len(o.Letters) {
		w.trap(api.TrapSlot)
	}
	if x.Op == api.OSlot {
		return Cell{To: o, Slot: slot}
	}
	if o.Letters[slot] != kind {
		w.trap(api.TrapSlot)
	}
	if len(taken) == 2 {
		w.note(func(e *api.Effect) { e.Writes = true })
		o.Slots[slot] = taken[1]
		return Cell{}
	}
	w.note(func(e *api.Effect) { e.Reads = true })
	return o.Slots[slot]
}
