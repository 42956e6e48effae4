package graph

import (
	"math"
	"math/rand"
	"testing"

	"turntable/api"
)

// enders is the operations that end a block, and others is those that do not, with numbers that are no operations.
var (
	enders = []int{api.OBr, api.OIf, api.ORet, api.OFail}
	others = []int{api.OConst, api.OAdd, api.OSub, api.OMul, api.ODiv, api.OLt, api.OEq, api.ONil, api.OSame, api.ONew, api.OLoadI, api.OLoadP, api.OStoreI, api.OStoreP,
		api.OSlot, api.OGetI, api.OGetP, api.OPutI, api.OPutP, api.OPhi, api.OCall, api.OOut, api.OPoll, api.OReloc, api.OMark, 0, api.OMove, -1, 31, 1 << 32, 1<<32 + api.OBr, math.MinInt, math.MaxInt}
)

// ender is an instruction that ends a block and goes to others: by its labels br, if, or ret.
func ender(to []int) api.Instr {
	x := api.Instr{Op: api.ORet, Id: -1, To: to}
	switch len(to) {
	case 1:
		x.Op = api.OBr
	case 2:
		x.Op, x.Args = api.OIf, []int{0}
	}
	return x
}

// flow is a function whose blocks go to others.
func flow(to ...[]int) api.Func {
	f := api.Func{Name: "f", Params: []int{api.TInt}}
	for _, l := range to {
		f.Blocks = append(f.Blocks, []api.Instr{ender(l)})
	}
	return f
}

// maker makes functions by chance that is the same each time.
type maker struct{ *rand.Rand }

func newMaker(seed int) maker { return maker{rand.New(rand.NewSource(int64(seed)))} }

// one is one of some.
func (m maker) one(l []int) int { return l[m.Intn(len(l))] }

// labels is so many numbers of blocks, by chance.
func (m maker) labels(count, blocks int) []int {
	l := make([]int, count)
	for i := range l {
		l[i] = m.Intn(blocks)
	}
	return l
}

// edges is what each of some blocks goes to: mostly one or two blocks, now and then none, or many.
func (m maker) edges(blocks int) [][]int {
	edges := make([][]int, blocks)
	for i := range edges {
		edges[i] = m.labels([]int{0, 1, 1, 2, 2, 2, 2, 5}[m.Intn(8)], blocks)
	}
	return edges
}

// body is the instructions ahead of the last one of a block: each with whatever its labels may be.
func (m maker) body(count, blocks int) []api.Instr {
	var l []api.Instr
	for range count {
		x := api.Instr{Op: m.one(others), Id: m.Intn(9) - 1, To: m.labels(m.Intn(3), blocks)}
		if x.Op == api.OPhi {
			x.To = []int{m.one([]int{-1, 0, blocks, blocks + 1, math.MinInt, math.MaxInt})}
		}
		l = append(l, x)
	}
	return l
}

// function is a function that is well shaped, with instructions ahead of the last ones that go nowhere.
func (m maker) function(edges [][]int) api.Func {
	f := flow(edges...)
	for i, block := range f.Blocks {
		block[0].Op = m.one(enders)
		f.Blocks[i] = append(m.body(m.Intn(3), len(f.Blocks)), block[0])
	}
	return f
}

// eachFlow hands over functions of all kinds: all of up to three blocks that go to none, one, or two blocks, and greater ones by chance.
func eachFlow(t *testing.T, do func(f api.Func)) {
	for blocks := range 4 {
		if blocks > 0 {
			all(blocks, nil, do)
		}
	}
	m := newMaker(8)
	for range 4000 {
		f := m.function(m.edges(1 + m.Intn(9)))
		mustShape(t, f, api.Err{})
		do(f)
	}
	for range 20 {
		do(m.function(m.edges(10 + m.Intn(30))))
	}
}

// all hands over each function of so many blocks that begins with some, the rest of which go to none, one, or two blocks.
func all(blocks int, begun [][]int, do func(f api.Func)) {
	if len(begun) == blocks {
		do(flow(begun...))
		return
	}
	with := func(to ...int) { all(blocks, append(begun[:len(begun):len(begun)], to), do) }
	with()
	for a := range blocks {
		with(a)
		for b := range blocks {
			with(a, b)
		}
	}
}
