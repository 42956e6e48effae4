package graph

import (
	"math"
	"testing"

	"turntable/api"
	"turntable/made"
)

// enders is the operations that end a block, and others is those that do not, with numbers that are no operations.
var (
	enders = []int{api.OBr, api.OIf, api.ORet, api.OFail}
	others = []int{api.OConst, api.OAdd, api.OSub, api.OMul, api.ODiv, api.OLt, api.OEq, api.ONil, api.OSame, api.ONew, api.OLoadI, api.OLoadP, api.OStoreI, api.OStoreP,
		api.OSlot, api.OGetI, api.OGetP, api.OPutI, api.OPutP, api.OPhi, api.OCall, api.OOut, api.OPoll, api.OReloc, api.OMark, 0, api.OMove, -1, 31, 1 << 32, 1<<32 + api.OBr, math.MinInt, math.MaxInt}
)

// maker makes functions of any operations, with anything in the labels of a phi.
type maker struct{ *made.Maker }

func newMaker(seed int) maker { return maker{made.New(seed)} }

// body is the instructions ahead of the last one of a block: each with whatever its labels may be.
func (m maker) body(count, blocks int) []api.Instr {
	var l []api.Instr
	for range count {
		x := api.Instr{Op: m.One(others), Id: m.Intn(9) - 1, To: m.Labels(m.Intn(3), blocks)}
		if x.Op == api.OPhi {
			x.To = []int{m.One([]int{-1, 0, blocks, blocks + 1, math.MinInt, math.MaxInt})}
		}
		l = append(l, x)
	}
	return l
}

// function is a function that is well shaped, with instructions ahead of the last ones that go nowhere.
func (m maker) function(edges [][]int) api.Func {
	f := made.Flow(edges...)
	for i, block := range f.Blocks {
		block[0].Op = m.One(enders)
		f.Blocks[i] = append(m.body(m.Intn(3), len(f.Blocks)), block[0])
	}
	return f
}

// eachFlow hands over functions of all kinds: all of up to three blocks that go to none, one, or two blocks, and greater ones by chance.
func eachFlow(t *testing.T, do func(f api.Func)) {
	for blocks := 1; blocks <= 3; blocks++ {
		made.All(blocks, true, do)
	}
	m := newMaker(8)
	for range 4000 {
		f := m.function(m.Edges(1 + m.Intn(9)))
		mustShape(t, f, api.Err{})
		do(f)
	}
	for range 20 {
		do(m.function(m.Edges(10 + m.Intn(30))))
	}
}
