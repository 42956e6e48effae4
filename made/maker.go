package made

import "turntable/api"

// Maker makes functions by chance. Its numbers are made here: a test that fails must fail each time, and the program has no random source.
type Maker struct{ state uint64 }

// New is a maker; each seed has numbers of its own.
func New(seed int) *Maker { return &Maker{state: uint64(seed)} }

// Intn is a number from 0 on to ahead of n, by steps through all words of 64 bits, each of which is then mixed (splitmix64).
func (m *Maker) Intn(n int) int {
	m.state += 0x9e3779b97f4a7c15
	z := m.state
	z = (z ^ z>>30) * 0xbf58476d1ce4e5b9
	z = (z ^ z>>27) * 0x94d049bb133111eb
	return int((z ^ z>>31) % uint64(n))
}

// One is one of some.
func (m *Maker) One(l []int) int { return l[m.Intn(len(l))] }

// Perm is the numbers from 0 on to ahead of n, in any order.
func (m *Maker) Perm(n int) []int {
	l := make([]int, n)
	for i := range l {
		j := m.Intn(i + 1)
		l[i], l[j] = l[j], i
	}
	return l
}

// Shuffled is a list's elements in any order.
func (m *Maker) Shuffled(l []int) []int {
	out := make([]int, len(l))
	for i, k := range m.Perm(len(l)) {
		out[i] = l[k]
	}
	return out
}

// Labels is so many numbers of blocks.
func (m *Maker) Labels(count, blocks int) []int {
	l := make([]int, count)
	for i := range l {
		l[i] = m.Intn(blocks)
	}
	return l
}

// Edges is what each of some blocks goes to: mostly one or two blocks, now and then none, or many.
func (m *Maker) Edges(blocks int) [][]int {
	edges := make([][]int, blocks)
	for i := range edges {
		edges[i] = m.Labels(m.One([]int{0, 1, 1, 2, 2, 2, 2, 5}), blocks)
	}
	return edges
}

// Near is what each of some blocks goes to, where most go to blocks beside them: so that ways are long, and trees deep.
func (m *Maker) Near(blocks int) [][]int {
	edges := make([][]int, blocks)
	for i := range edges {
		for range 1 + m.Intn(2) {
			to := i + m.Intn(8) - 3
			edges[i] = append(edges[i], min(max(to, 0), blocks-1))
		}
	}
	return edges
}

// Nested is rounds within rounds and side by side, with some edges that are not of that kind, and some blocks that nobody goes to.
func (m *Maker) Nested(blocks int) [][]int {
	edges := make([][]int, blocks)
	m.fill(edges, 0, blocks)
	for i := range edges {
		switch m.Intn(12) {
		case 0:
			edges[i] = append(edges[i], m.Intn(i+1))
		case 1:
			edges[i] = append(edges[i], m.Intn(blocks))
		case 2:
			edges[i] = edges[i][:m.Intn(len(edges[i])+1)]
		}
	}
	return edges
}

// fill has the blocks from one on to ahead of another one follow each other, in pieces, some of which are gone round.
func (m *Maker) fill(edges [][]int, from, end int) {
	for at := from; at < end; {
		stop := at + 1 + m.Intn(end-at)
		if m.Intn(2) == 0 && stop-at < end-from {
			m.fill(edges, at, stop)
			edges[stop-1] = append(edges[stop-1], at)
		} else {
			stop = at + 1
		}
		if stop < len(edges) {
			edges[stop-1] = append(edges[stop-1], stop)
		}
		at = stop
	}
}

// Mixed is edges with the blocks, but block 0, under other numbers.
func (m *Maker) Mixed(edges [][]int) [][]int {
	other := make([]int, len(edges))
	for i, k := range m.Perm(len(edges) - 1) {
		other[i+1] = k + 1
	}
	out := make([][]int, len(edges))
	for from, list := range edges {
		for _, to := range list {
			out[other[from]] = append(out[other[from]], other[to])
		}
	}
	return out
}

// Function is a function that is well shaped, with instructions ahead of the last ones that go nowhere.
func (m *Maker) Function(edges [][]int) api.Func {
	f := Flow(edges...)
	for i, block := range f.Blocks {
		var body []api.Instr
		for range m.Intn(3) {
			op := m.One([]int{api.OConst, api.OPhi, api.OCall, api.OOut, api.OPoll})
			body = append(body, api.Instr{Op: op, Id: m.Intn(9) - 1, To: m.Labels(m.Intn(3), len(f.Blocks))})
		}
		f.Blocks[i] = append(body, block[0])
	}
	return f
}
