package graph

import (
	"math"
	"testing"

	"turntable/api"
)

// mustShape holds what Shaped answers of a function.
func mustShape(t *testing.T, f api.Func, want api.Err) {
	t.Helper()
	if got := Shaped(f); got != want {
		t.Fatalf("Shaped(%v) is %v, want %v", f.Blocks, got, want)
	}
}

// blocksOf is a function of blocks.
func blocksOf(blocks ...[]api.Instr) api.Func { return api.Func{Name: "f", Blocks: blocks} }

// ret is a block that ends at once.
func ret() []api.Instr { return []api.Instr{{Op: api.ORet, Id: -1}} }

// Promise 8.1: a function without blocks, and one of a block without instructions.
func TestShapedNothing(t *testing.T) {
	mustShape(t, api.Func{}, api.Err{Code: api.ErrEnd})
	mustShape(t, blocksOf([][]api.Instr{}...), api.Err{Code: api.ErrEnd})
	mustShape(t, api.Func{Name: "main", Params: []int{1, 2}, Ret: 1, At: 7, Blocks: [][]api.Instr{}}, api.Err{Code: api.ErrEnd})
	mustShape(t, blocksOf(nil), api.Err{Code: api.ErrEnd})
	mustShape(t, blocksOf([]api.Instr{}), api.Err{Code: api.ErrEnd})
	for at := range 5 {
		f := blocksOf(ret(), ret(), ret(), ret(), ret())
		f.Blocks[at] = nil
		mustShape(t, f, api.Err{Code: api.ErrEnd, At: at})
		f.Blocks[at] = []api.Instr{}
		mustShape(t, f, api.Err{Code: api.ErrEnd, At: at})
	}
}

// Promise 8.1: each operation, and numbers that are none, alone, as the last one, and ahead of the last one.
func TestShapedEnds(t *testing.T) {
	end := api.Err{Code: api.ErrEnd, At: 1}
	for _, op := range enders {
		x := api.Instr{Op: op}
		mustShape(t, blocksOf(ret(), []api.Instr{x}), api.Err{})
		mustShape(t, blocksOf(ret(), []api.Instr{{Op: api.OConst}, x}), api.Err{})
		mustShape(t, blocksOf(ret(), []api.Instr{x, {Op: api.ORet}}), end)
		mustShape(t, blocksOf(ret(), []api.Instr{x, {Op: api.OConst}}), end)
		mustShape(t, blocksOf(ret(), []api.Instr{{Op: api.OConst}, x, {Op: api.OConst}, {Op: api.OBr, To: []int{0}}}), end)
	}
	for _, op := range others {
		x := api.Instr{Op: op}
		mustShape(t, blocksOf(ret(), []api.Instr{x}), end)
		mustShape(t, blocksOf(ret(), []api.Instr{x, {Op: api.ORet}}), api.Err{})
		mustShape(t, blocksOf(ret(), []api.Instr{{Op: api.OConst}, x}), end)
		mustShape(t, blocksOf(ret(), []api.Instr{{Op: api.OConst}, x, x, {Op: api.OFail}}), api.Err{})
	}
}

// Promise 8.1: labels of all operations, the least, the greatest, and the ones beside them, in each place; those of a phi are not looked at.
func TestShapedLabels(t *testing.T) {
	const blocks = 3
	for _, label := range []int{math.MinInt, -1 << 32, -256, -2, -1, 0, 1, 2, 3, 4, 255, 256, 1 << 32, 1<<32 + 1, math.MaxInt} {
		for place := range 3 {
			to := []int{1, 2, 0}
			to[place] = label
			want := api.Err{}
			if label < 0 || label >= blocks {
				want = api.Err{Code: api.ErrLabel, At: 2}
			}
			for _, op := range enders {
				mustShape(t, blocksOf(ret(), ret(), []api.Instr{{Op: op, To: to}}), want)
				mustShape(t, blocksOf(ret(), ret(), []api.Instr{{Op: op, To: to[:place+1]}}), want)
				mustShape(t, blocksOf(ret(), ret(), []api.Instr{{Op: api.OOut}, {Op: op, To: to}}), want)
			}
			for _, op := range others {
				f := blocksOf(ret(), ret(), []api.Instr{{Op: api.OOut}, {Op: op, To: to}, {Op: api.ORet}})
				if op == api.OPhi {
					mustShape(t, f, api.Err{})
				} else {
					mustShape(t, f, want)
				}
			}
		}
	}
}

// fault is something that is wrong with an instruction, or with a block.
type fault struct {
	block int
	code  api.Code
}

// firstFault is what is wrong first, each thing asked for by itself: the faults are written down in the order of the chapter, and the first is taken.
func firstFault(f api.Func) api.Err {
	if len(f.Blocks) == 0 {
		return api.Err{Code: api.ErrEnd}
	}
	var faults []fault
	for i, block := range f.Blocks {
		for j, x := range block {
			ends := x.Op >= 26 && x.Op <= 29
			if ends && j < len(block)-1 {
				faults = append(faults, fault{i, api.ErrEnd})
			}
			if !ends && j == len(block)-1 {
				faults = append(faults, fault{i, api.ErrEnd})
			}
			for _, to := range x.To {
				if x.Op != 20 && (to < 0 || to > len(f.Blocks)-1) {
					faults = append(faults, fault{i, api.ErrLabel})
				}
			}
		}
		if len(block) == 0 {
			faults = append(faults, fault{i, api.ErrEnd})
		}
	}
	if len(faults) == 0 {
		return api.Err{}
	}
	return api.Err{Code: faults[0].code, At: faults[0].block}
}

// spoil makes one thing of a function wrong, or leaves it right.
func (m maker) spoil(f api.Func) {
	at := m.Intn(len(f.Blocks))
	block := f.Blocks[at]
	if len(block) == 0 {
		return
	}
	i := m.Intn(len(block))
	switch m.Intn(6) {
	case 0:
		f.Blocks[at] = nil
	case 1:
		block[i].Op = m.One(enders)
	case 2:
		block[i].Op = m.One(others)
	case 3:
		f.Blocks[at] = block[:i]
	default:
		block[i].To = append(m.Labels(m.Intn(3), len(f.Blocks)), m.One([]int{-1, -2, 0, len(f.Blocks) - 1, len(f.Blocks), math.MinInt, math.MaxInt}))
	}
}

// Promise 8.1: of two things that are wrong the one that the chapter names first, at the number of its block, by hand.
func TestShapedFirst(t *testing.T) {
	bad := []int{9}
	list := []struct {
		f    api.Func
		want api.Err
	}{
		// Of one instruction: that it ends where it may not, ahead of where it goes.
		{blocksOf([]api.Instr{{Op: api.OBr, To: bad}, {Op: api.ORet}}), api.Err{Code: api.ErrEnd}},
		{blocksOf([]api.Instr{{Op: api.OConst, To: bad}}), api.Err{Code: api.ErrEnd}},
		{blocksOf([]api.Instr{{Op: api.OPhi, To: bad}}), api.Err{Code: api.ErrEnd}},
		// Of two instructions: that of the first one.
		{blocksOf([]api.Instr{{Op: api.OConst, To: bad}, {Op: api.OBr}, {Op: api.ORet}}), api.Err{Code: api.ErrLabel}},
		{blocksOf([]api.Instr{{Op: api.OConst, To: bad}, {Op: api.OConst}}), api.Err{Code: api.ErrLabel}},
		{blocksOf([]api.Instr{{Op: api.OBr}, {Op: api.OConst, To: bad}, {Op: api.ORet}}), api.Err{Code: api.ErrEnd}},
		{blocksOf([]api.Instr{{Op: api.OPhi, To: bad}, {Op: api.ORet, To: bad}}), api.Err{Code: api.ErrLabel}},
		// Of two blocks: that of the first one, and its number.
		{blocksOf(ret(), []api.Instr{{Op: api.OBr, To: bad}}, nil), api.Err{Code: api.ErrLabel, At: 1}},
		{blocksOf(ret(), nil, []api.Instr{{Op: api.OBr, To: bad}}), api.Err{Code: api.ErrEnd, At: 1}},
		{blocksOf(ret(), ret(), []api.Instr{{Op: api.OIf, To: []int{0, 3}}}, nil), api.Err{Code: api.ErrEnd, At: 3}},
		{blocksOf(ret(), ret(), []api.Instr{{Op: api.OIf, To: []int{0, 4}}}, nil), api.Err{Code: api.ErrLabel, At: 2}},
	}
	for _, x := range list {
		mustShape(t, x.f, x.want)
	}
}

// Promise 8.1: what is wrong first with functions that were spoilt by chance, once or more.
func TestShapedMade(t *testing.T) {
	m := newMaker(1)
	seen := map[api.Code]int{}
	for range 60000 {
		f := m.function(m.Edges(1 + m.Intn(5)))
		for range m.Intn(4) {
			m.spoil(f)
		}
		want := firstFault(f)
		seen[want.Code]++
		mustShape(t, f, want)
	}
	for _, code := range []api.Code{api.OK, api.ErrEnd, api.ErrLabel} {
		if seen[code] < 5000 {
			t.Errorf("code %d was met %d times", code, seen[code])
		}
	}
}

// Promise 8.1: as many blocks as there may be, and more: the last one may be gone to, the one behind it may not.
func TestShapedMany(t *testing.T) {
	for _, blocks := range []int{1, 2, api.MaxBlocks - 1, api.MaxBlocks, api.MaxBlocks + 1, 5000} {
		f := api.Func{}
		for range blocks {
			f.Blocks = append(f.Blocks, []api.Instr{{Op: api.OBr, To: []int{blocks - 1}}})
		}
		mustShape(t, f, api.Err{})
		f.Blocks[blocks-1][0].To[0] = blocks
		mustShape(t, f, api.Err{Code: api.ErrLabel, At: blocks - 1})
		f.Blocks[blocks-1] = nil
		mustShape(t, f, api.Err{Code: api.ErrEnd, At: blocks - 1})
	}
}
