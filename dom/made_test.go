package dom

import (
	"math/rand"
	"testing"

	"turntable/api"
	"turntable/graph"
)

// ender is an instruction that ends a block and goes to others: by its labels br, if, or ret.
func ender(to []int) api.Instr {
	x := api.Instr{Op: api.ORet, Id: -1, To: to}
	switch len(to) {
	case 1:
		x.Op = api.OBr
	case 2:
		x.Op, x.Args = api.OIf, []int{0}
	}
	return x
}

// flow is a function whose blocks go to others.
func flow(to ...[]int) api.Func {
	f := api.Func{Name: "f", Params: []int{api.TInt}}
	for _, l := range to {
		f.Blocks = append(f.Blocks, []api.Instr{ender(l)})
	}
	return f
}

// maker makes functions by chance that is the same each time.
type maker struct{ *rand.Rand }

func newMaker(seed int) maker { return maker{rand.New(rand.NewSource(int64(seed)))} }

// labels is so many numbers of blocks, by chance.
func (m maker) labels(count, blocks int) []int {
	l := make([]int, count)
	for i := range l {
		l[i] = m.Intn(blocks)
	}
	return l
}

// edges is what each of some blocks goes to: mostly one or two blocks, now and then none, or many.
func (m maker) edges(blocks int) [][]int {
	edges := make([][]int, blocks)
	for i := range edges {
		edges[i] = m.labels([]int{0, 1, 1, 2, 2, 2, 2, 5}[m.Intn(8)], blocks)
	}
	return edges
}

// near is what each of some blocks goes to, where most go to blocks beside them: so that ways are long, and trees deep.
func (m maker) near(blocks int) [][]int {
	edges := make([][]int, blocks)
	for i := range edges {
		for range 1 + m.Intn(2) {
			to := i + m.Intn(8) - 3
			edges[i] = append(edges[i], min(max(to, 0), blocks-1))
		}
	}
	return edges
}

// mixed is edges with the blocks, but block 0, under other numbers.
func (m maker) mixed(edges [][]int) [][]int {
	other := make([]int, len(edges))
	for i, k := range m.Perm(len(edges) - 1) {
		other[i+1] = k + 1
	}
	out := make([][]int, len(edges))
	for from, list := range edges {
		for _, to := range list {
			out[other[from]] = append(out[other[from]], other[to])
		}
	}
	return out
}

// function is a function that is well shaped, with instructions ahead of the last ones that go nowhere.
func (m maker) function(edges [][]int) api.Func {
	f := flow(edges...)
	for i, block := range f.Blocks {
		var body []api.Instr
		for range m.Intn(3) {
			op := []int{api.OConst, api.OPhi, api.OCall, api.OOut, api.OPoll}[m.Intn(5)]
			body = append(body, api.Instr{Op: op, Id: m.Intn(9) - 1, To: m.labels(m.Intn(3), len(f.Blocks))})
		}
		f.Blocks[i] = append(body, block[0])
	}
	return f
}

// eachFlow hands over functions of all kinds: all of up to four blocks that go to none, one, or two blocks, and greater ones by chance.
func eachFlow(t *testing.T, do func(f api.Func)) {
	for blocks := 1; blocks <= 4; blocks++ {
		all(blocks, nil, do)
	}
	m := newMaker(9)
	for i := range 3000 {
		edges := m.edges(1 + m.Intn(11))
		switch i % 3 {
		case 1:
			edges = m.near(len(edges))
		case 2:
			edges = m.mixed(m.near(len(edges)))
		}
		f := m.function(edges)
		if e := graph.Shaped(f); e != (api.Err{}) {
			t.Fatalf("%v is not well shaped: %v", f.Blocks, e)
		}
		do(f)
	}
	for range 30 {
		do(m.function(m.edges(12 + m.Intn(40))))
		do(m.function(m.mixed(m.near(12 + m.Intn(40)))))
	}
}

// all hands over each function of so many blocks that begins with some, the rest of which go to none, one, or two unlike blocks.
func all(blocks int, begun [][]int, do func(f api.Func)) {
	if len(begun) == blocks {
		do(flow(begun...))
		return
	}
	with := func(to ...int) { all(blocks, append(begun[:len(begun):len(begun)], to), do) }
	with()
	for a := range blocks {
		with(a)
		for b := range blocks {
			// Of more than three blocks both orders would be many, and which of two labels is first means nothing here.
			if a < b || a > b && blocks < 4 {
				with(a, b)
			}
		}
	}
}
