package made

import (
	"cmp"
	"slices"

	"turntable/api"
)

// builder is a function that is being made: among which others, what stands ahead of what in it, the types of its values, and the values of each block (the parameters are those of block 0).
type builder struct {
	*Maker
	heads  []api.Func
	f      api.Func
	later  bool
	ahead  [][]bool
	types  map[int]int
	values [][]int
}

// body is a function with blocks, whose values are made ahead of where they are taken, and of the right type.
func (m *Maker) body(heads []api.Func, f api.Func, blocks int, later bool) api.Func {
	ways := m.Ways(blocks)
	b := builder{Maker: m, heads: heads, f: f, later: later, ahead: Ahead(Flow(ways...)), types: map[int]int{}, values: make([][]int, len(ways))}
	b.f.Blocks = make([][]api.Instr, len(ways))
	for value, t := range f.Params {
		b.keep(0, value, t)
	}
	for _, k := range b.order() {
		b.fill(k, len(From(ways, k)), ways[k])
	}
	for k := range ways {
		b.join(k, From(ways, k))
	}
	return b.f
}

// Ahead tells of each two blocks whether the first one stands on every way to the second one, or is it, by leaving it out; all blocks must be reached.
func Ahead(f api.Func) [][]bool {
	ahead := make([][]bool, len(f.Blocks))
	for k := range ahead {
		ahead[k] = Search(f, 0, k)
		for i, met := range ahead[k] {
			ahead[k][i] = !met
		}
	}
	return ahead
}

// From is the blocks that go to one, rising.
func From(edges [][]int, k int) []int {
	var list []int
	for from, l := range edges {
		if slices.Contains(l, k) {
			list = append(list, from)
		}
	}
	return list
}

// order is the blocks, each behind those that stand ahead of it.
func (b *builder) order() []int {
	depth := make([]int, len(b.ahead))
	order := make([]int, len(b.ahead))
	for k, below := range b.ahead {
		order[k] = k
		for i, is := range below {
			if is {
				depth[i]++
			}
		}
	}
	slices.SortStableFunc(order, func(x, y int) int { return cmp.Compare(depth[x], depth[y]) })
	return order
}

// keep notes that a value is made in a block.
func (b *builder) keep(block, value, kind int) {
	b.values[block] = append(b.values[block], value)
	b.types[value] = kind
}

// fresh is the number of a value that nobody makes yet.
func (b *builder) fresh() int {
	for {
		value := b.Intn(10 + 2*len(b.types))
		if b.Intn(50) == 0 {
			value = api.MaxValue - b.Intn(3)
		}
		if _, there := b.types[value]; !there {
			return value
		}
	}
}

// pick is a value of a type that is made, so far, in a block or one that stands ahead of it; false, if there is none.
func (b *builder) pick(block, kind int) (int, bool) {
	var fits []int
	for k, list := range b.values {
		if !b.ahead[k][block] {
			continue
		}
		for _, value := range list {
			if b.types[value] == kind {
				fits = append(fits, value)
			}
		}
	}
	if len(fits) == 0 {
		return 0, false
	}
	return b.One(fits), true
}

// put puts an instruction behind those of a block; if it makes something, that is a new value.
func (b *builder) put(block int, x api.Instr, kind int) {
	x.Id = -1
	if kind != api.TNone {
		x.Id = b.fresh()
		b.keep(block, x.Id, kind)
	}
	b.f.Blocks[block] = append(b.f.Blocks[block], x)
}

// fill makes the instructions of a block to which so many others come, and that goes where it is said to go. The phis' values are told later: they may come from blocks that are not made yet.
func (b *builder) fill(block, come int, to []int) {
	for range b.Intn(3) {
		// What there is in block 0, there is at the end of every block.
		if list := b.values[0]; come > 0 && len(list) > 0 {
			kind := b.types[b.One(list)]
			b.put(block, api.Instr{Op: api.OPhi, Type: kind}, kind)
		}
	}
	if block == 0 && b.Intn(3) > 0 {
		b.begin()
	}
	for range b.Intn(7) {
		b.some(block)
	}
	b.end(block, to)
}

// begin makes a value of each type in block 0, so that there is one everywhere.
func (b *builder) begin() {
	b.put(0, api.Instr{Op: api.OConst, N: b.number()}, api.TInt)
	b.put(0, api.Instr{Op: api.ONew, Name: b.shape()}, api.TPtr)
	object, _ := b.pick(0, api.TPtr)
	b.put(0, api.Instr{Op: api.OSlot, N: int64(b.Intn(2)), Args: []int{object}}, api.TDer)
}

// some puts an instruction by chance behind those of a block, if there is what it takes.
func (b *builder) some(block int) {
	if b.Intn(8) == 0 {
		b.call(block)
		return
	}
	r := rows[b.Intn(len(rows))]
	if b.later && b.Intn(4) == 0 {
		r = laterRows[b.Intn(len(laterRows))]
	}
	x := api.Instr{Op: r.op}
	for i := range len(r.takes) {
		value, there := b.pick(block, kindOf(r.takes[i]))
		if !there {
			return
		}
		x.Args = append(x.Args, value)
	}
	makes := api.TNone
	if r.makes != "" {
		makes = kindOf(r.makes[0])
	}
	switch r.op {
	case api.OConst:
		x.N = b.number()
	case api.ONew:
		x.Name = b.shape()
	case api.OLoadI, api.OLoadP, api.OStoreI, api.OStoreP, api.OSlot:
		x.N = int64(b.Intn(3))
	case api.OPoll:
		x.N = int64(b.Intn(99))
	case api.OReloc:
		x.N, x.Type = int64(b.Intn(99)), makes
	}
	b.put(block, x, makes)
}

// call puts a call behind the instructions of a block, if there is what it passes.
func (b *builder) call(block int) {
	f := b.heads[b.Intn(len(b.heads))]
	x := api.Instr{Op: api.OCall, Type: f.Ret, Name: f.Name}
	for _, kind := range f.Params {
		value, there := b.pick(block, kind)
		if !there {
			return
		}
		x.Args = append(x.Args, value)
	}
	if b.later {
		x.N = int64(b.Intn(99))
	}
	b.put(block, x, f.Ret)
}

// end puts the last instruction behind those of a block: a fork may go to one block by both ways, and where there is nothing to answer, the run fails.
func (b *builder) end(block int, to []int) {
	if len(to) == 1 && b.Intn(6) == 0 {
		to = []int{to[0], to[0]}
	}
	switch len(to) {
	case 0:
		b.leave(block)
	case 1:
		b.put(block, api.Instr{Op: api.OBr, To: to}, api.TNone)
	default:
		value, there := b.pick(block, api.TInt)
		if !there {
			b.put(block, api.Instr{Op: api.OConst, N: b.number()}, api.TInt)
			value, _ = b.pick(block, api.TInt)
		}
		b.put(block, api.Instr{Op: api.OIf, Args: []int{value}, To: to}, api.TNone)
	}
}

// leave ends a block that goes nowhere.
func (b *builder) leave(block int) {
	x := api.Instr{Op: api.ORet}
	if b.f.Ret != api.TNone {
		value, there := b.pick(block, b.f.Ret)
		x.Args = []int{value}
		if !there {
			x = api.Instr{Op: api.OFail, N: int64(b.Intn(256))}
		}
	}
	if b.Intn(8) == 0 {
		x = api.Instr{Op: api.OFail, N: int64(b.Intn(256))}
	}
	b.put(block, x, api.TNone)
}

// join tells the phis of a block what they take from the blocks that come to it.
func (b *builder) join(block int, come []int) {
	for i, x := range b.f.Blocks[block] {
		if x.Op != api.OPhi {
			return
		}
		x.To = b.Shuffled(come)
		for _, k := range x.To {
			value, _ := b.pick(k, x.Type)
			x.Args = append(x.Args, value)
		}
		b.f.Blocks[block][i] = x
	}
}
