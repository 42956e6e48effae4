package well

import (
	"slices"

	"turntable/api"
	"turntable/made"
)

// spoil makes something of a program otherwise, for good or ill.
func spoil(m *made.Maker, p api.Prog) {
	f := &p.Funcs[m.Intn(len(p.Funcs))]
	if m.Intn(6) == 0 {
		spoilHead(m, f)
		return
	}
	if len(f.Blocks) == 0 {
		return
	}
	k := m.Intn(len(f.Blocks))
	if m.Intn(3) == 0 || len(f.Blocks[k]) == 0 {
		spoilBlock(m, f, k)
		return
	}
	x := &f.Blocks[k][m.Intn(len(f.Blocks[k]))]
	// Nothing is written into lists that other instructions may share.
	x.Args, x.To = slices.Clone(x.Args), slices.Clone(x.To)
	spoilInstr(m, f, x)
}

// spoilHead makes a function otherwise, but for its instructions.
func spoilHead(m *made.Maker, f *api.Func) {
	switch m.Intn(6) {
	case 0, 1:
		f.Name = []string{"main", "f0", "f1", "other"}[m.Intn(4)]
	case 2:
		f.Ret = m.Intn(3)
	case 3:
		f.Params = append(f.Params, 1+m.Intn(2))
	case 4:
		f.Params = slices.Clone(f.Params[:m.Intn(len(f.Params)+1)])
	case 5:
		switch m.Intn(8) {
		case 0:
			f.Blocks = nil
		case 1:
			f.Name = "F"
		default:
			f.Blocks = append(f.Blocks, []api.Instr{{Op: api.OFail, Id: -1}})
		}
	}
}

// spoilBlock makes a block otherwise: its instructions are put elsewhere, doubled, or taken away.
func spoilBlock(m *made.Maker, f *api.Func, k int) {
	block := slices.Clone(f.Blocks[k])
	if len(block) == 0 {
		return
	}
	i, j := m.Intn(len(block)), m.Intn(len(block))
	switch m.Intn(5) {
	case 0:
		block[i], block[j] = block[j], block[i]
	case 1:
		block = slices.Insert(block, i, block[j])
	case 2:
		block = slices.Delete(block, i, i+1)
	case 3:
		more := []api.Instr{{Op: api.OPoll, Id: -1, N: 3}, {Op: api.OMark, Id: -1, Args: []int{m.Intn(20)}}, {Op: api.OReloc, Id: m.Intn(30), Type: api.TPtr, Args: []int{m.Intn(20)}}, {Op: api.OOut, Id: -1, Args: []int{m.Intn(20)}}}
		x := more[m.Intn(len(more))]
		x.At = 5000 + m.Intn(100)
		block = slices.Insert(block, i, x)
	case 4:
		// An instruction goes on into another block: what takes its value may be ahead of it there.
		to := m.Intn(len(f.Blocks))
		if to != k && i < len(block)-1 && len(f.Blocks[to]) > 0 {
			f.Blocks[to] = slices.Insert(slices.Clone(f.Blocks[to]), m.Intn(len(f.Blocks[to])), block[i])
			block = slices.Delete(block, i, i+1)
		}
	}
	f.Blocks[k] = block
}

// spoilInstr makes an instruction otherwise.
func spoilInstr(m *made.Maker, f *api.Func, x *api.Instr) {
	values := []int{m.Intn(12), m.Intn(40), 99}
	for value := range typed(*f) {
		values = append(values, value)
	}
	slices.Sort(values)
	switch m.Intn(9) {
	case 0, 1, 2:
		if len(x.Args) > 0 {
			x.Args[m.Intn(len(x.Args))] = m.One(values)
		}
	case 3:
		if len(x.To) > 0 {
			x.To[m.Intn(len(x.To))] = m.Intn(len(f.Blocks) + 1)
		}
	case 4:
		if x.Id >= 0 {
			x.Id = m.One(values)
		}
	case 5:
		spoilCall(m, x)
	case 6:
		spoilPhi(m, f, x)
	case 7:
		if x.Op == api.ORet || x.Op == api.OCall {
			x.Args = append(x.Args, m.One(values))
			x.Args = x.Args[:m.Intn(len(x.Args)+1)]
		}
	case 8:
		if x.Op == api.OCall || x.Op == api.OPhi {
			x.Type = 1 + m.Intn(2)
		}
	}
}

// spoilCall makes a call otherwise.
func spoilCall(m *made.Maker, x *api.Instr) {
	if x.Op != api.OCall {
		return
	}
	if m.Intn(2) == 0 {
		x.N = int64(m.Intn(3))
	}
	x.Name = []string{"main", "f0", "f1", "nobody"}[m.Intn(4)]
}

// spoilPhi makes a phi otherwise: one pair more, one fewer, or others.
func spoilPhi(m *made.Maker, f *api.Func, x *api.Instr) {
	if x.Op != api.OPhi {
		return
	}
	i := m.Intn(len(x.To))
	switch m.Intn(3) {
	case 0:
		x.To, x.Args = append(x.To, m.Intn(len(f.Blocks))), append(x.Args, x.Args[i])
	case 1:
		if len(x.To) > 1 {
			x.To, x.Args = slices.Delete(x.To, i, i+1), slices.Delete(x.Args, i, i+1)
		}
	case 2:
		j := m.Intn(len(x.To))
		x.Args[i], x.Args[j] = x.Args[j], x.Args[i]
	}
}
