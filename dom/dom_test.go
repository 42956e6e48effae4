package dom

import (
	"math"
	"slices"
	"testing"

	"turntable/api"
	"turntable/graph"
	"turntable/made"
)

// same tells whether two lists of lists hold the same; a list that is nil and one without elements are the same.
func same(a, b [][]int) bool { return slices.EqualFunc(a, b, slices.Equal[[]int]) }

// The flows whose answers are written down by hand.
var flows = []struct {
	name  string
	to    [][]int
	up    []int
	kids  [][]int
	depth []int
	down  []int
}{
	{"one block", [][]int{{}}, []int{-1}, [][]int{{}}, []int{0}, []int{0}},
	{"a block that goes to itself", [][]int{{0}}, []int{-1}, [][]int{{}}, []int{0}, []int{0}},
	{"a line", [][]int{{1}, {2}, {3}, {}}, []int{-1, 0, 1, 2}, [][]int{{1}, {2}, {3}, {}}, []int{0, 1, 2, 3}, []int{0, 1, 2, 3}},
	{"a line whose numbers fall", [][]int{{3}, {}, {1}, {2}}, []int{-1, 2, 3, 0}, [][]int{{3}, {}, {1}, {2}}, []int{0, 3, 2, 1}, []int{0, 3, 2, 1}},
	{"a fork whose ways do not meet", [][]int{{1, 2}, {}, {}}, []int{-1, 0, 0}, [][]int{{1, 2}, {}, {}}, []int{0, 1, 1}, []int{0, 1, 2}},
	{"a fork the other way round", [][]int{{2, 1}, {}, {}}, []int{-1, 0, 0}, [][]int{{1, 2}, {}, {}}, []int{0, 1, 1}, []int{0, 1, 2}},
	{"a fork whose ways meet", [][]int{{1, 2}, {3}, {3}, {}}, []int{-1, 0, 0, 0}, [][]int{{1, 2, 3}, {}, {}, {}}, []int{0, 1, 1, 1}, []int{0, 1, 2, 3}},
	{"a fork whose ways meet, and what is behind them", [][]int{{3}, {4}, {4}, {2, 1}, {5}, {}}, []int{-1, 3, 3, 0, 3, 4}, [][]int{{3}, {}, {}, {1, 2, 4}, {5}, {}}, []int{0, 2, 2, 1, 2, 3},
		[]int{0, 3, 1, 2, 4, 5}},
	{"a fork one of whose ways is the other", [][]int{{1, 2}, {2}, {}}, []int{-1, 0, 0}, [][]int{{1, 2}, {}, {}}, []int{0, 1, 1}, []int{0, 1, 2}},
	{"a fork with both labels the same", [][]int{{1, 1}, {}}, []int{-1, 0}, [][]int{{1}, {}}, []int{0, 1}, []int{0, 1}},
	{"the chapter's example", [][]int{{1}, {2, 3}, {4}, {4}, {1, 5}, {}}, []int{-1, 0, 1, 1, 1, 4}, [][]int{{1}, {2, 3, 4}, {}, {}, {5}, {}}, []int{0, 1, 2, 2, 2, 3}, []int{0, 1, 2, 3, 4, 5}},
	{"a round", [][]int{{1}, {2, 3}, {1}, {}}, []int{-1, 0, 1, 1}, [][]int{{1}, {2, 3}, {}, {}}, []int{0, 1, 2, 2}, []int{0, 1, 2, 3}},
	{"a round by way of the first block", [][]int{{1, 2}, {0}, {}}, []int{-1, 0, 0}, [][]int{{1, 2}, {}, {}}, []int{0, 1, 1}, []int{0, 1, 2}},
	{"a line that goes back to the first block", [][]int{{2}, {0}, {1}}, []int{-1, 2, 0}, [][]int{{2}, {}, {1}}, []int{0, 2, 1}, []int{0, 2, 1}},
	{"rounds within rounds", [][]int{{1}, {2, 5}, {3, 4}, {2}, {1}, {}}, []int{-1, 0, 1, 2, 2, 1}, [][]int{{1}, {2, 5}, {3, 4}, {}, {}, {}}, []int{0, 1, 2, 3, 3, 2}, []int{0, 1, 2, 3, 4, 5}},
	{"a round with two ways in", [][]int{{1, 2}, {2}, {1}}, []int{-1, 0, 0}, [][]int{{1, 2}, {}, {}}, []int{0, 1, 1}, []int{0, 1, 2}},
	{"a round with two ways in, behind a line, with a way out", [][]int{{4}, {2}, {1, 3}, {}, {1, 2}}, []int{-1, 4, 4, 2, 0}, [][]int{{4}, {}, {3}, {}, {1, 2}}, []int{0, 2, 2, 3, 1}, []int{0, 4, 1, 2, 3}},
	{"rounds with two ways in, side by side, which take several rounds", [][]int{{1, 2}, {3}, {4, 5}, {4}, {3, 5}, {4}}, []int{-1, 0, 0, 0, 0, 0}, [][]int{{1, 2, 3, 4, 5}, {}, {}, {}, {}, {}},
		[]int{0, 1, 1, 1, 1, 1}, []int{0, 1, 2, 3, 4, 5}},
	{"a line that is gone to at both ends, and gone both ways, which takes a round for each block", [][]int{{1, 6}, {2}, {3, 1}, {4, 2}, {5, 3}, {6, 4}, {5}}, []int{-1, 0, 0, 0, 0, 0, 0},
		[][]int{{1, 2, 3, 4, 5, 6}, {}, {}, {}, {}, {}, {}}, []int{0, 1, 1, 1, 1, 1, 1}, []int{0, 1, 2, 3, 4, 5, 6}},
	{"blocks that go to themselves", [][]int{{0, 1}, {1, 2}, {2}}, []int{-1, 0, 1}, [][]int{{1}, {2}, {}}, []int{0, 1, 2}, []int{0, 1, 2}},
	{"a block that nobody goes to", [][]int{{2}, {}, {}}, []int{-1, -1, 0}, [][]int{{2}, {}, {}}, []int{0, 0, 1}, []int{0, 2}},
	{"blocks that nobody goes to go to those that are reached", [][]int{{2}, {3, 0}, {3}, {}, {2}}, []int{-1, -1, 0, 2, -1}, [][]int{{2}, {}, {3}, {}, {}}, []int{0, 0, 1, 2, 0}, []int{0, 2, 3}},
	{"rounds that are not reached", [][]int{{4}, {2}, {1, 4}, {3, 4}, {}}, []int{-1, -1, -1, -1, 0}, [][]int{{4}, {}, {}, {}, {}}, []int{0, 0, 0, 0, 1}, []int{0, 4}},
	{"nothing but the first block is reached", [][]int{{}, {0, 1}, {1, 0}}, []int{-1, -1, -1}, [][]int{{}, {}, {}}, []int{0, 0, 0}, []int{0}},
	{"forks at several depths, their numbers mixed", [][]int{{5, 2}, {}, {8, 3}, {1, 7}, {}, {9, 6}, {4}, {}, {}, {}}, []int{-1, 3, 0, 2, 6, 0, 5, 3, 2, 5},
		[][]int{{2, 5}, {}, {3, 8}, {1, 7}, {}, {6, 9}, {4}, {}, {}, {}}, []int{0, 3, 1, 2, 3, 1, 2, 3, 2, 2}, []int{0, 2, 3, 1, 7, 8, 5, 6, 4, 9}},
	{"a block of many labels", [][]int{{3, 1, 2, 3, 1}, {4}, {4}, {}, {}}, []int{-1, 0, 0, 0, 0}, [][]int{{1, 2, 3, 4}, {}, {}, {}, {}}, []int{0, 1, 1, 1, 1}, []int{0, 1, 2, 3, 4}},
}

// Promises 9.2, 9.3 and 9.4: flows whose answers are written down by hand.
func TestByHand(t *testing.T) {
	for _, x := range flows {
		f := made.Flow(x.to...)
		if e := graph.Shaped(f); e != (api.Err{}) {
			t.Fatalf("%s: %v", x.name, e)
		}
		d := Of(f)
		var up, depth []int
		var kids [][]int
		for k := range f.Blocks {
			up, kids, depth = append(up, d.Up(k)), append(kids, d.Kids(k)), append(depth, d.Depth(k))
		}
		if !slices.Equal(up, x.up) {
			t.Errorf("%s: Up is %v, want %v", x.name, up, x.up)
		}
		if !same(kids, x.kids) {
			t.Errorf("%s: Kids is %v, want %v", x.name, kids, x.kids)
		}
		if !slices.Equal(depth, x.depth) {
			t.Errorf("%s: Depth is %v, want %v", x.name, depth, x.depth)
		}
		if got := d.Down(); !slices.Equal(got, x.down) {
			t.Errorf("%s: Down is %v, want %v", x.name, got, x.down)
		}
	}
}

// Promises 9.1 and 9.2: who stands ahead of whom, written down by hand: of each block all that do.
func TestAheadByHand(t *testing.T) {
	list := []struct {
		to    [][]int
		ahead [][]int
	}{
		{[][]int{{}}, [][]int{{0}}},
		{[][]int{{0}}, [][]int{{0}}},
		{[][]int{{2}, {}, {1}}, [][]int{{0}, {0, 1, 2}, {0, 2}}},
		{[][]int{{1, 2}, {}, {}}, [][]int{{0}, {0, 1}, {0, 2}}},
		{[][]int{{1, 2}, {3}, {3}, {}}, [][]int{{0}, {0, 1}, {0, 2}, {0, 3}}},
		{[][]int{{1}, {2, 3}, {4}, {4}, {1, 5}, {}}, [][]int{{0}, {0, 1}, {0, 1, 2}, {0, 1, 3}, {0, 1, 4}, {0, 1, 4, 5}}},
		{[][]int{{1}, {2, 5}, {3, 4}, {2}, {1}, {}}, [][]int{{0}, {0, 1}, {0, 1, 2}, {0, 1, 2, 3}, {0, 1, 2, 4}, {0, 1, 5}}},
		{[][]int{{1, 2}, {2}, {1, 3}, {}}, [][]int{{0}, {0, 1}, {0, 2}, {0, 2, 3}}},
		{[][]int{{3}, {1, 3}, {2}, {3, 0, 4}, {4}}, [][]int{{0}, {}, {}, {0, 3}, {0, 3, 4}}},
	}
	for _, x := range list {
		d := Of(made.Flow(x.to...))
		for b, want := range x.ahead {
			for a := range x.ahead {
				if got := d.Ahead(a, b); got != slices.Contains(want, a) {
					t.Errorf("of %v: Ahead(%d, %d) is %v", x.to, a, b, got)
				}
			}
		}
	}
}

// Promises 9.2 and 9.3: numbers that are no blocks, also where these would stand ahead of all, or be what Up is where there is none.
func TestNoBlocks(t *testing.T) {
	for _, x := range flows {
		d := Of(made.Flow(x.to...))
		for _, k := range made.Strangers(len(x.to)) {
			if d.Up(k) != -1 || len(d.Kids(k)) != 0 || d.Depth(k) != 0 || d.Ahead(k, k) {
				t.Errorf("%s: of %d, which is none: Up %d, Kids %v, Depth %d, Ahead of itself %v", x.name, k, d.Up(k), d.Kids(k), d.Depth(k), d.Ahead(k, k))
			}
			for b := range x.to {
				if d.Ahead(k, b) || d.Ahead(b, k) {
					t.Errorf("%s: %d, which is none, and %d: Ahead is %v, and %v", x.name, k, b, d.Ahead(k, b), d.Ahead(b, k))
				}
			}
		}
	}
}

// Promises 9.1 to 9.3: blocks that are not reached stand ahead of none, not of themselves, and none stands ahead of them.
func TestNotReached(t *testing.T) {
	// 1 goes to itself, 3 to all, 5 to what is reached; 2 and 4 are reached.
	f := made.Flow([]int{2}, []int{1}, []int{4}, []int{0, 1, 2, 3, 4, 5}, []int{2}, []int{4, 0})
	d := Of(f)
	for _, k := range []int{1, 3, 5} {
		if d.Up(k) != -1 || len(d.Kids(k)) != 0 || d.Depth(k) != 0 {
			t.Errorf("of %d: Up %d, Kids %v, Depth %d", k, d.Up(k), d.Kids(k), d.Depth(k))
		}
		for b := range f.Blocks {
			if d.Ahead(k, b) || d.Ahead(b, k) {
				t.Errorf("%d and %d: Ahead is %v, and %v", k, b, d.Ahead(k, b), d.Ahead(b, k))
			}
		}
	}
	if !d.Ahead(0, 0) || !d.Ahead(2, 2) || !d.Ahead(4, 4) || !d.Ahead(2, 4) || d.Ahead(4, 2) {
		t.Error("what is reached does not stand as it does")
	}
}

// Promises 9.2 to 9.4: the greatest number of blocks, and more: lines whose numbers rise, the last block of which goes to itself, and lines whose numbers fall, the last one of which goes back to the first.
func TestLongLines(t *testing.T) {
	for _, blocks := range []int{2, api.MaxBlocks - 1, api.MaxBlocks, api.MaxBlocks + 1, 5000} {
		last := blocks - 1
		rising := []int{0}
		falling := []int{0}
		for k := range last {
			rising, falling = append(rising, k+1), append(falling, last-k)
		}
		mustLine(t, Of(made.Long(blocks, func(k int) []int { return []int{min(k+1, last)} })), rising)
		mustLine(t, Of(made.Long(blocks, func(k int) []int { return []int{(k + last) % blocks} })), falling)
	}
}

// mustLine holds that each block of a line stands ahead of all behind it, and of no others.
func mustLine(t *testing.T, d *Tree, line []int) {
	t.Helper()
	first, last := line[0], line[len(line)-1]
	if got := d.Down(); !slices.Equal(got, line) {
		t.Fatalf("of %d blocks in a line: Down is %v", len(line), got)
	}
	if d.Up(first) != -1 || len(d.Kids(last)) != 0 {
		t.Fatalf("of %d blocks in a line: Up of the first one is %d, Kids of the last one %v", len(line), d.Up(first), d.Kids(last))
	}
	for at, k := range line {
		if d.Depth(k) != at || at > 0 && (d.Up(k) != line[at-1] || !slices.Equal(d.Kids(line[at-1]), []int{k})) {
			t.Fatalf("of %d blocks in a line: %d has depth %d and Up %d", len(line), k, d.Depth(k), d.Up(k))
		}
		if !d.Ahead(k, last) || !d.Ahead(first, k) || d.Ahead(last, k) != (k == last) || d.Ahead(k, first) != (k == first) {
			t.Fatalf("of %d blocks in a line: %d stands otherwise ahead", len(line), k)
		}
	}
}

// Promises 9.3 and 9.4: the greatest number of blocks, all below the first one, and none of them reached.
func TestWide(t *testing.T) {
	for _, blocks := range []int{1, 2, api.MaxBlocks, 5000} {
		var others, everyone []int
		for k := range blocks {
			if everyone = append(everyone, k); k > 0 {
				others = append(others, k)
			}
		}
		turned := slices.Clone(others)
		slices.Reverse(turned)
		d := Of(made.Long(blocks, func(k int) []int { return [][]int{turned, {blocks - 1}}[min(k, 1)] }))
		if got := d.Kids(0); !slices.Equal(got, others) {
			t.Errorf("of %d blocks below the first one: Kids(0) is %v", blocks, got)
		}
		if got := d.Down(); !slices.Equal(got, everyone) {
			t.Errorf("of %d blocks below the first one: Down is %v", blocks, got)
		}
		d = Of(made.Long(blocks, func(k int) []int { return [][]int{nil, {0, k}}[min(k, 1)] }))
		if got := d.Down(); !slices.Equal(got, []int{0}) || len(d.Kids(0)) != 0 || d.Ahead(0, blocks) || d.Depth(blocks-1) != 0 {
			t.Errorf("of %d blocks that nobody goes to: Down is %v, Kids(0) %v", blocks, got, d.Kids(0))
		}
	}
}

// R7, and what is not well shaped, are promised nothing, but the calls end.
func TestNoFunctions(t *testing.T) {
	wrong := []api.Func{
		{},
		{Blocks: [][]api.Instr{nil}},
		{Blocks: [][]api.Instr{nil, nil, {{Op: api.OBr, To: []int{0}}}}},
		made.Flow([]int{7, -1, 1}, []int{math.MinInt, math.MaxInt, 0}),
		{Blocks: [][]api.Instr{{{Op: api.OBr, To: []int{1}}, {Op: api.OConst}}, {{Op: api.OIf, To: []int{2, 2}}}}},
	}
	trees := []*Tree{nil, {}, new(Tree)}
	for _, f := range wrong {
		trees = append(trees, Of(f))
	}
	for _, d := range trees {
		for k := -2; k < 4; k++ {
			d.Up(k)
			d.Kids(k)
			d.Depth(k)
			for b := -2; b < 4; b++ {
				d.Ahead(k, b)
			}
		}
		d.Down()
	}
}
