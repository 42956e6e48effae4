package graph

import (
	"math"
	"slices"
	"testing"

	"turntable/api"
)

// list is the numbers of the blocks that are reached.
func list(reached []bool) []int {
	var l []int
	for b, is := range reached {
		if is {
			l = append(l, b)
		}
	}
	return l
}

// Promise 8.5: edges, blocks to begin with, and one that is left out, with what is reached written down by hand.
func TestReachedByHand(t *testing.T) {
	// 0 goes to 1, 1 to 2 and 3, both to 4, 4 to 1 and 5; 6 goes to 5, and 7 to itself.
	edges := [][]int{{1}, {2, 3}, {4}, {4}, {1, 5}, {}, {5}, {7}}
	cases := []struct {
		from []int
		but  int
		want []int
	}{
		{nil, -1, nil},
		{[]int{}, 0, nil},
		{[]int{0}, -1, []int{0, 1, 2, 3, 4, 5}},
		{[]int{0}, 8, []int{0, 1, 2, 3, 4, 5}},
		{[]int{0}, math.MaxInt, []int{0, 1, 2, 3, 4, 5}},
		{[]int{0}, math.MinInt, []int{0, 1, 2, 3, 4, 5}},
		{[]int{0}, 0, nil},
		{[]int{0, 0}, 0, nil},
		{[]int{0}, 1, []int{0}},
		{[]int{0}, 2, []int{0, 1, 3, 4, 5}},
		{[]int{0}, 3, []int{0, 1, 2, 4, 5}},
		{[]int{0}, 4, []int{0, 1, 2, 3}},
		{[]int{0}, 5, []int{0, 1, 2, 3, 4}},
		{[]int{0}, 6, []int{0, 1, 2, 3, 4, 5}},
		{[]int{4}, -1, []int{1, 2, 3, 4, 5}},
		{[]int{4}, 1, []int{4, 5}},
		{[]int{4}, 4, nil},
		{[]int{5}, -1, []int{5}},
		{[]int{5}, 5, nil},
		{[]int{6}, -1, []int{5, 6}},
		{[]int{6}, 5, []int{6}},
		{[]int{7}, -1, []int{7}},
		{[]int{7}, 7, nil},
		{[]int{7, 7, 7}, 0, []int{7}},
		{[]int{2, 6}, 4, []int{2, 5, 6}},
		{[]int{6, 2}, 4, []int{2, 5, 6}},
		{[]int{6, 2}, 2, []int{5, 6}},
		{[]int{6, 2}, 6, []int{1, 2, 3, 4, 5}},
		{[]int{0, 6, 7}, -1, []int{0, 1, 2, 3, 4, 5, 6, 7}},
		{[]int{7, 6, 5, 4, 3, 2, 1, 0}, 1, []int{0, 2, 3, 4, 5, 6, 7}},
	}
	for _, x := range cases {
		got := Reached(edges, x.from, x.but)
		if len(got) != len(edges) || !slices.Equal(list(got), x.want) {
			t.Errorf("Reached from %v but by way of %d is %v, want %v", x.from, x.but, list(got), x.want)
		}
	}
	if got := Reached(nil, nil, -1); len(got) != 0 {
		t.Errorf("Reached of no edges is %v", got)
	}
}

// wayTo tells whether there is a way on which one block does not stand, by trying all ways that meet no block twice.
func wayTo(edges [][]int, from, to, but int, met []int) bool {
	if from == but || slices.Contains(met, from) {
		return false
	}
	if from == to {
		return true
	}
	for _, next := range edges[from] {
		if wayTo(edges, next, to, but, append(met[:len(met):len(met)], from)) {
			return true
		}
	}
	return false
}

// Promise 8.5: edges and blocks by chance, held against a plain search of ways.
func TestReachedMade(t *testing.T) {
	m := newMaker(5)
	for range 6000 {
		blocks := 1 + m.Intn(6)
		edges := m.Edges(blocks)
		from := m.Labels(m.Intn(4), blocks)
		but := m.Intn(blocks+4) - 2
		got := Reached(edges, from, but)
		if len(got) != blocks {
			t.Fatalf("Reached of %v is %v", edges, got)
		}
		for b, is := range got {
			want := slices.ContainsFunc(from, func(a int) bool { return wayTo(edges, a, b, but, nil) })
			if is != want {
				t.Fatalf("Reached(%v, %v, %d) says %v of %d", edges, from, but, is, b)
			}
		}
	}
}

// Promise 8.5: what is reached from the first block along Succs stands in the order; what reaches a block is reached along Preds.
func TestReachedOfFlows(t *testing.T) {
	eachFlow(t, func(f api.Func) {
		succs, preds := Succs(f), Preds(f)
		order := Order(f)
		slices.Sort(order)
		if got := list(Reached(succs, []int{0}, -1)); !slices.Equal(got, order) {
			t.Fatalf("of %v are reached %v, and in the order stand %v", f.Blocks, got, order)
		}
		way := ways(f, anyEdge)
		for b := range f.Blocks {
			for a, is := range Reached(preds, []int{b}, -1) {
				if is != (a == b || way[a][b]) {
					t.Fatalf("of %v: whether %d reaches %d is told as %v", f.Blocks, a, b, is)
				}
			}
		}
	})
}

// Promise 8.5: a line whose numbers fall takes as many rounds as there are blocks, and one more block is not reached.
func TestReachedLong(t *testing.T) {
	for _, blocks := range []int{2, 3, api.MaxBlocks, 1 << 20} {
		edges := make([][]int, blocks)
		for b := 2; b < blocks; b++ {
			edges[b] = []int{b - 1}
		}
		got := list(Reached(edges, []int{blocks - 1}, -1))
		if len(got) != blocks-1 || got[0] != 1 {
			t.Errorf("of %d blocks %d are reached", blocks, len(got))
		}
		if got := list(Reached(edges, []int{blocks - 1}, blocks/2)); len(got) != blocks-1-blocks/2 {
			t.Errorf("of %d blocks %d are reached ahead of the middle", blocks, len(got))
		}
	}
}

// Promise 8.5: edges and blocks that are none are not promised anything, but the call ends.
func TestReachedNone(t *testing.T) {
	for _, none := range []int{-1, 2, math.MinInt, math.MaxInt} {
		got := Reached([][]int{{none, 1}, nil}, []int{none, 0, none}, none)
		if !slices.Equal(got, []bool{true, true}) {
			t.Errorf("with %d, which is none, are reached %v", none, got)
		}
		Reached(nil, []int{none}, none)
	}
}
