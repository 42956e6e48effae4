package graph

import (
	"reflect"
	"slices"
	"testing"

	"turntable/api"
	"turntable/made"
)

// answers is all that the calls answer of a function.
type answers struct {
	shaped        api.Err
	succs, preds  [][]int
	order, places []int
	backs         [][2]int
	reached       []bool
}

func ask(f api.Func, edges [][]int, from []int) answers {
	return answers{Shaped(f), Succs(f), Preds(f), Order(f), Places(f), Backs(f), Reached(edges, from, -1)}
}

// spoil writes into all lists that were answered, also behind their lengths.
func (a answers) spoil() {
	for _, l := range append(slices.Clone(a.succs), a.preds...) {
		l = l[:cap(l)]
		for i := range l {
			l[i] = 77
		}
	}
	for _, l := range [][]int{a.order[:cap(a.order)], a.places[:cap(a.places)]} {
		for i := range l {
			l[i] = 78
		}
	}
	for i := range a.backs[:cap(a.backs)] {
		a.backs[:cap(a.backs)][i] = [2]int{79, 79}
	}
	for i := range a.reached {
		a.reached[i] = !a.reached[i]
	}
	clear(a.succs)
	clear(a.preds)
}

// R3: what lies behind a list's length is neither read nor written, nothing that is handed in is changed, and who writes into what was answered changes no later answer.
func TestOwnMemory(t *testing.T) {
	m := newMaker(6)
	for range 500 {
		f := m.function(m.Edges(3 + m.Intn(5)))
		edges := m.Edges(len(f.Blocks))
		from := m.Labels(2, len(f.Blocks))
		want := ask(f, edges, from)
		full := made.Loaded(f)
		fullEdges := made.Behind(edges, []int{0, 1})
		for i := range fullEdges {
			fullEdges[i] = made.Behind(edges[i], 0, 1, 2)
		}
		fullFrom := made.Behind(from, 0, 1, 2)
		before := made.Whole(full)
		for range 2 {
			got := ask(full, fullEdges, fullFrom)
			if !reflect.DeepEqual(got, want) {
				t.Fatalf("with more behind its lists: %v, want %v", got, want)
			}
			got.spoil()
		}
		if !reflect.DeepEqual(made.Whole(full), before) {
			t.Fatalf("what was handed in was changed: %v", full.Blocks)
		}
		if !slices.Equal(fullFrom[:cap(fullFrom)][:5], append(slices.Clone(from), 0, 1, 2)) {
			t.Fatalf("from was changed: %v", fullFrom[:5])
		}
		for i, l := range fullEdges {
			if !slices.Equal(l[:len(l)+3], append(slices.Clone(edges[i]), 0, 1, 2)) {
				t.Fatalf("edges were changed: %v", l[:len(l)+3])
			}
		}
	}
}

// R3: a caller who writes into what it gave changes nothing that was answered.
func TestNotKept(t *testing.T) {
	m := newMaker(7)
	for range 200 {
		f := m.function(m.Edges(3 + m.Intn(5)))
		edges := m.Edges(len(f.Blocks))
		from := m.Labels(2, len(f.Blocks))
		g := made.Whole(f)
		g.Blocks = g.Blocks[:len(f.Blocks)]
		for i := range g.Blocks {
			g.Blocks[i] = g.Blocks[i][:len(f.Blocks[i])]
			for j := range g.Blocks[i] {
				g.Blocks[i][j].To = g.Blocks[i][j].To[:len(f.Blocks[i][j].To)]
			}
		}
		got := ask(g, edges, from)
		want := ask(f, edges, from)
		for _, block := range g.Blocks {
			for j := range block {
				for k := range block[j].To {
					block[j].To[k] = 2
				}
				block[j] = api.Instr{}
			}
		}
		for _, l := range edges {
			for k := range l {
				l[k] = 0
			}
		}
		from[0], from[1] = 0, 0
		if !reflect.DeepEqual(got, want) {
			t.Fatalf("what was answered was changed: %v, want %v", got, want)
		}
	}
}

// R3: no two lists of one answer share memory: who makes one longer does not write into another one.
func TestListsApart(t *testing.T) {
	f := made.Flow([]int{1, 2, 3}, []int{1, 2, 3}, []int{3, 1, 2}, []int{2, 1, 3})
	for _, lists := range [][][]int{Succs(f), Preds(f)} {
		for i := range lists {
			want := slices.Clone(lists)
			for j := range want {
				want[j] = slices.Clone(want[j])
			}
			_ = append(lists[i], 99)
			if !same(lists, want) {
				t.Fatalf("list %d made longer: %v, want %v", i, lists, want)
			}
		}
	}
}

// R3: lists that are nil and lists without elements are the same.
func TestNilAndEmpty(t *testing.T) {
	a := api.Func{Blocks: [][]api.Instr{{{Op: api.OBr, To: []int{1}}}, {{Op: api.ORet}}}}
	b := api.Func{Blocks: [][]api.Instr{{{Op: api.OBr, To: []int{1}, Args: []int{}}}, {{Op: api.ORet, To: []int{}, Args: []int{}}}}, Params: []int{}}
	x, y := ask(a, [][]int{nil, {0}}, nil), ask(b, [][]int{{}, {0}}, []int{})
	if x.shaped != y.shaped || !same(x.succs, y.succs) || !same(x.preds, y.preds) || !slices.Equal(x.order, y.order) || !slices.Equal(x.places, y.places) || !slices.Equal(x.backs, y.backs) || !slices.Equal(x.reached, y.reached) {
		t.Errorf("%v and %v", x, y)
	}
}

// P6: what is answered hangs on the blocks alone: not on what else a function has, nor on what was asked ahead.
func TestBlocksAlone(t *testing.T) {
	m := newMaker(10)
	for range 300 {
		f := m.function(m.Edges(2 + m.Intn(5)))
		want := ask(f, Preds(f), []int{0})
		g := f
		g.Name, g.Params, g.Ret, g.At = "other", []int{2, 1}, api.TPtr, 99
		g.Blocks = slices.Clone(f.Blocks)
		for i, block := range g.Blocks {
			g.Blocks[i] = slices.Clone(block)
			for j := range block {
				x := &g.Blocks[i][j]
				x.Id, x.N, x.Type, x.Args, x.Name, x.At = m.Intn(5), int64(m.Intn(7)), m.Intn(4), m.Labels(2, 9), "x", m.Intn(9)
			}
		}
		if got := ask(g, Preds(g), []int{0}); !reflect.DeepEqual(got, want) {
			t.Fatalf("of the same blocks: %v, want %v", got, want)
		}
	}
}
