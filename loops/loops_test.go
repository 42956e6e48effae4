package loops

import (
	"math"
	"reflect"
	"slices"
	"testing"

	"turntable/api"
	"turntable/graph"
	"turntable/made"
)

// The flows whose loops, and of each of these Entry, and of each block Depth, and Inner, are written down by hand.
var flows = []struct {
	name  string
	to    [][]int
	loops []api.Loop
	entry []int
	depth []int
	inner []int
}{
	{"one block", [][]int{{}}, nil, nil, []int{0}, nil},
	{"a line", [][]int{{1}, {2}, {}}, nil, nil, []int{0, 0, 0}, nil},
	{"a line whose numbers fall", [][]int{{2}, {}, {1}}, nil, nil, []int{0, 0, 0}, nil},
	{"a fork whose ways meet", [][]int{{1, 2}, {3}, {3}, {}}, nil, nil, []int{0, 0, 0, 0}, nil},
	{"a fork one of whose ways is the other, backwards", [][]int{{1, 2}, {}, {1}}, nil, nil, []int{0, 0, 0}, nil},
	{"the chapter's example", [][]int{{1}, {2, 3}, {4}, {4}, {1, 5}, {}}, []api.Loop{{Head: 1, Blocks: []int{1, 2, 3, 4}, Backs: []int{4}, Up: -1}}, []int{0}, []int{0, 1, 1, 1, 1, 0}, []int{0}},
	{"the first block goes to itself", [][]int{{0}}, []api.Loop{{Head: 0, Blocks: []int{0}, Backs: []int{0}, Up: -1}}, []int{-1}, []int{1}, []int{0}},
	{"the first block goes to itself, and on", [][]int{{0, 1}, {}}, []api.Loop{{Head: 0, Blocks: []int{0}, Backs: []int{0}, Up: -1}}, []int{-1}, []int{1, 0}, []int{0}},
	{"a block goes to itself", [][]int{{1}, {2, 1}, {}}, []api.Loop{{Head: 1, Blocks: []int{1}, Backs: []int{1}, Up: -1}}, []int{0}, []int{0, 1, 0}, []int{0}},
	{"a block goes to itself by both labels", [][]int{{1}, {1, 1}}, []api.Loop{{Head: 1, Blocks: []int{1}, Backs: []int{1}, Up: -1}}, []int{0}, []int{0, 1}, []int{0}},
	{"a round of two blocks", [][]int{{1}, {2, 3}, {1}, {}}, []api.Loop{{Head: 1, Blocks: []int{1, 2}, Backs: []int{2}, Up: -1}}, []int{0}, []int{0, 1, 1, 0}, []int{0}},
	{"a round by way of the first block", [][]int{{1, 2}, {0}, {}}, []api.Loop{{Head: 0, Blocks: []int{0, 1}, Backs: []int{1}, Up: -1}}, []int{-1}, []int{1, 1, 0}, []int{0}},
	{"a round of all blocks, their numbers mixed", [][]int{{3}, {4}, {1}, {2}, {0}}, []api.Loop{{Head: 0, Blocks: []int{0, 1, 2, 3, 4}, Backs: []int{4}, Up: -1}}, []int{-1}, []int{1, 1, 1, 1, 1}, []int{0}},
	{"a head whose number is the greatest of its loop", [][]int{{5}, {2}, {5, 3}, {}, {1}, {4}}, []api.Loop{{Head: 5, Blocks: []int{1, 2, 4, 5}, Backs: []int{2}, Up: -1}}, []int{0}, []int{0, 1, 1, 0, 1, 1}, []int{0}},
	{"a head with several backs, their numbers mixed", [][]int{{4}, {4}, {6}, {1, 4}, {5, 3}, {4, 2}, {}}, []api.Loop{{Head: 4, Blocks: []int{1, 3, 4, 5}, Backs: []int{1, 3, 5}, Up: -1}}, []int{0},
		[]int{0, 1, 0, 1, 1, 1, 0}, []int{0}},
	{"a head that is one of its backs", [][]int{{1}, {1, 2}, {1, 3}, {}}, []api.Loop{{Head: 1, Blocks: []int{1, 2}, Backs: []int{1, 2}, Up: -1}}, []int{0}, []int{0, 1, 1, 0}, []int{0}},
	{"rounds that share their head", [][]int{{1}, {2, 3}, {1}, {4}, {1, 5}, {}}, []api.Loop{{Head: 1, Blocks: []int{1, 2, 3, 4}, Backs: []int{2, 4}, Up: -1}}, []int{0}, []int{0, 1, 1, 1, 1, 0}, []int{0}},
	{"a round within a round", [][]int{{1}, {2, 5}, {3, 4}, {2}, {1}, {}}, []api.Loop{{Head: 1, Blocks: []int{1, 2, 3, 4}, Backs: []int{4}, Up: -1}, {Head: 2, Blocks: []int{2, 3}, Backs: []int{3}, Up: 0}},
		[]int{0, -1}, []int{0, 1, 2, 2, 1, 0}, []int{1, 0}},
	{"a round within a round, the inner head's number lower", [][]int{{3}, {2, 4}, {1}, {1, 5}, {3}, {}}, []api.Loop{{Head: 1, Blocks: []int{1, 2}, Backs: []int{2}, Up: 1}, {Head: 3, Blocks: []int{1, 2, 3, 4}, Backs: []int{4}, Up: -1}},
		[]int{-1, 0}, []int{0, 2, 2, 1, 1, 0}, []int{0, 1}},
	{"two rounds that go back from one block", [][]int{{1}, {2}, {3}, {2, 1}}, []api.Loop{{Head: 1, Blocks: []int{1, 2, 3}, Backs: []int{3}, Up: -1}, {Head: 2, Blocks: []int{2, 3}, Backs: []int{3}, Up: 0}}, []int{0, 1}, []int{0, 1, 2, 2}, []int{1, 0}},
	{"rounds three deep", [][]int{{1}, {2}, {3}, {3, 4}, {2, 5}, {1, 6}, {}},
		[]api.Loop{{Head: 1, Blocks: []int{1, 2, 3, 4, 5}, Backs: []int{5}, Up: -1}, {Head: 2, Blocks: []int{2, 3, 4}, Backs: []int{4}, Up: 0}, {Head: 3, Blocks: []int{3}, Backs: []int{3}, Up: 1}},
		[]int{0, 1, 2}, []int{0, 1, 2, 3, 2, 1, 0}, []int{2, 1, 0}},
	{"rounds three deep, their numbers mixed", [][]int{{4}, {6, 2}, {5, 4}, {}, {1}, {3}, {6, 1}},
		[]api.Loop{{Head: 1, Blocks: []int{1, 6}, Backs: []int{6}, Up: 1}, {Head: 4, Blocks: []int{1, 2, 4, 6}, Backs: []int{2}, Up: -1}, {Head: 6, Blocks: []int{6}, Backs: []int{6}, Up: 0}},
		[]int{4, 0, -1}, []int{0, 2, 1, 0, 1, 0, 3}, []int{2, 0, 1}},
	{"rounds side by side, of the same number of blocks", [][]int{{1}, {2}, {1, 3}, {4}, {3, 5}, {}}, []api.Loop{{Head: 1, Blocks: []int{1, 2}, Backs: []int{2}, Up: -1}, {Head: 3, Blocks: []int{3, 4}, Backs: []int{4}, Up: -1}},
		[]int{0, -1}, []int{0, 1, 1, 1, 1, 0}, []int{0, 1}},
	{"rounds side by side within one", [][]int{{1}, {2}, {2, 3}, {3, 4}, {1, 5}, {}},
		[]api.Loop{{Head: 1, Blocks: []int{1, 2, 3, 4}, Backs: []int{4}, Up: -1}, {Head: 2, Blocks: []int{2}, Backs: []int{2}, Up: 0}, {Head: 3, Blocks: []int{3}, Backs: []int{3}, Up: 0}},
		[]int{0, 1, -1}, []int{0, 1, 2, 2, 1, 0}, []int{1, 2, 0}},
	{"a great round ahead of a small one, and one of the size between behind them", [][]int{{1}, {2}, {3}, {1, 4}, {4, 5}, {6}, {5}},
		[]api.Loop{{Head: 1, Blocks: []int{1, 2, 3}, Backs: []int{3}, Up: -1}, {Head: 4, Blocks: []int{4}, Backs: []int{4}, Up: -1}, {Head: 5, Blocks: []int{5, 6}, Backs: []int{6}, Up: -1}},
		[]int{0, -1, -1}, []int{0, 1, 1, 1, 1, 1, 1}, []int{1, 2, 0}},
	{"a round within one of the first block", [][]int{{1}, {1, 2}, {0}}, []api.Loop{{Head: 0, Blocks: []int{0, 1, 2}, Backs: []int{2}, Up: -1}, {Head: 1, Blocks: []int{1}, Backs: []int{1}, Up: 0}}, []int{-1, 0}, []int{1, 2, 1}, []int{1, 0}},
	{"a round with two ways in", [][]int{{1, 2}, {2}, {1}}, nil, nil, []int{0, 0, 0}, nil},
	{"a round with two ways in, within one with one way in", [][]int{{1}, {2, 3}, {3}, {2, 4}, {1, 5}, {}}, []api.Loop{{Head: 1, Blocks: []int{1, 2, 3, 4}, Backs: []int{4}, Up: -1}}, []int{0}, []int{0, 1, 1, 1, 1, 0}, []int{0}},
	{"a round with two ways in, and a block of it that goes to itself", [][]int{{1, 2}, {2}, {2, 1}}, []api.Loop{{Head: 2, Blocks: []int{2}, Backs: []int{2}, Up: -1}}, []int{-1}, []int{0, 0, 1}, []int{0}},
	{"a back that is one, and one from a round with two ways in that is none", [][]int{{1, 3}, {2}, {1, 3}, {2}}, nil, nil, []int{0, 0, 0, 0}, nil},
	{"a block in a round with two ways in goes back to what stands ahead, and another one to what does not", [][]int{{1}, {2, 3}, {3}, {1, 2}}, []api.Loop{{Head: 1, Blocks: []int{1, 2, 3}, Backs: []int{3}, Up: -1}}, []int{0}, []int{0, 1, 1, 1}, []int{0}},
}

// Promises 10.1 to 10.5: flows whose answers are written down by hand.
func TestByHand(t *testing.T) {
	for _, x := range flows {
		mustLoops(t, x.name, made.Flow(x.to...), x.loops, x.entry, x.depth, x.inner)
	}
}

// mustLoops holds all that is answered of a function.
func mustLoops(t *testing.T, name string, f api.Func, loops []api.Loop, entry, depth, inner []int) {
	t.Helper()
	if e := graph.Shaped(f); e != (api.Err{}) {
		t.Fatalf("%s: %v", name, e)
	}
	l := Of(f)
	if len(l)+len(loops) > 0 && !reflect.DeepEqual(l, loops) {
		t.Errorf("%s: the loops are %v, want %v", name, l, loops)
	}
	var in, deep []int
	for _, x := range l {
		in = append(in, Entry(f, x))
	}
	for k := range f.Blocks {
		deep = append(deep, Depth(l, k))
	}
	if !slices.Equal(in, entry) {
		t.Errorf("%s: Entry is %v, want %v", name, in, entry)
	}
	if !slices.Equal(deep, depth) {
		t.Errorf("%s: Depth is %v, want %v", name, deep, depth)
	}
	if got := Inner(l); !slices.Equal(got, inner) {
		t.Errorf("%s: Inner is %v, want %v", name, got, inner)
	}
}

// Promises 10.1 to 10.5: blocks that nobody goes to: they go back to nothing, and are of a loop just if they lead to its backs, not by way of its head.
func TestNotReached(t *testing.T) {
	round := api.Loop{Head: 1, Blocks: []int{1, 2}, Backs: []int{2}, Up: -1}
	wide := api.Loop{Head: 1, Blocks: []int{1, 2, 4}, Backs: []int{2}, Up: -1}
	list := []struct {
		name  string
		to    [][]int
		loops []api.Loop
		entry []int
		depth []int
	}{
		{"one that goes nowhere", [][]int{{1}, {2, 3}, {1}, {}, {}}, []api.Loop{round}, []int{0}, []int{0, 1, 1, 0, 0}},
		{"one that leads to the head alone: it goes there from without", [][]int{{1}, {2, 3}, {1}, {}, {1}}, []api.Loop{round}, []int{-1}, []int{0, 1, 1, 0, 0}},
		{"one that leads to a back: it is one of the loop's", [][]int{{1}, {2, 3}, {1}, {}, {2}}, []api.Loop{wide}, []int{0}, []int{0, 1, 1, 0, 1}},
		{"one that leads to a back and to the head: it is one of the loop's, and none of its backs", [][]int{{1}, {2, 3}, {1}, {}, {1, 2}}, []api.Loop{wide}, []int{0}, []int{0, 1, 1, 0, 1}},
		{"one that leads to the block behind a loop", [][]int{{1}, {2, 3}, {1}, {}, {3}}, []api.Loop{round}, []int{0}, []int{0, 1, 1, 0, 0}},
		{"one that leads to the block ahead of a loop", [][]int{{1}, {2, 3}, {1}, {}, {0}}, []api.Loop{round}, []int{0}, []int{0, 1, 1, 0, 0}},
		{"one that goes to itself", [][]int{{2}, {1}, {}}, nil, nil, []int{0, 0, 0}},
		{"rounds of such blocks alone", [][]int{{}, {2}, {1, 3}, {3}}, nil, nil, []int{0, 0, 0, 0}},
		{"a round of such blocks that leads to a loop's head", [][]int{{1}, {1}, {3}, {2, 1}}, []api.Loop{{Head: 1, Blocks: []int{1}, Backs: []int{1}, Up: -1}}, []int{-1}, []int{0, 1, 0, 0}},
		{"a round of such blocks that leads to a back", [][]int{{1}, {2}, {1}, {4}, {3, 2}}, []api.Loop{{Head: 1, Blocks: []int{1, 2, 3, 4}, Backs: []int{2}, Up: -1}}, []int{0}, []int{0, 1, 1, 1, 1}},
		{"the first block is gone to from such a one alone", [][]int{{1}, {}, {0}}, nil, nil, []int{0, 0, 0}},
		{"a loop of the first block is gone to from such a one alone", [][]int{{0}, {0}}, []api.Loop{{Head: 0, Blocks: []int{0}, Backs: []int{0}, Up: -1}}, []int{1}, []int{1, 0}},
		{"a loop of the first block is gone to from such a one that goes elsewhere, too", [][]int{{0}, {0, 1}}, []api.Loop{{Head: 0, Blocks: []int{0}, Backs: []int{0}, Up: -1}}, []int{-1}, []int{1, 0}},
		{"one that leads into two loops", [][]int{{1}, {2}, {1, 3}, {4}, {3}, {2, 4}},
			[]api.Loop{{Head: 1, Blocks: []int{1, 2, 5}, Backs: []int{2}, Up: -1}, {Head: 3, Blocks: []int{3, 4, 5}, Backs: []int{4}, Up: -1}}, []int{0, -1}, []int{0, 1, 1, 1, 1, 2}},
	}
	for _, x := range list {
		var inner []int
		for i := range x.loops {
			inner = append(inner, i)
		}
		mustLoops(t, x.name, made.Flow(x.to...), x.loops, x.entry, x.depth, inner)
	}
}

// Promise 10.4: the loop of 1 and 2, and who else goes to its head.
func TestEntry(t *testing.T) {
	round := func(first []int, others ...[]int) api.Func {
		return made.Flow(append([][]int{first, {2, 3}, {1}, {}}, others...)...)
	}
	list := []struct {
		name string
		f    api.Func
		want int
	}{
		{"one block, which goes there alone", round([]int{1}), 0},
		{"one block by both labels", round([]int{1, 1}), 0},
		{"one block that goes elsewhere, too", round([]int{1, 3}), -1},
		{"one block that goes elsewhere first", round([]int{3, 1}), -1},
		{"one block that goes to itself, too", round([]int{0, 1}), -1},
		{"one block of many labels, all of them the head", round([]int{1, 1, 1, 1}), 0},
		{"one block of many labels, the last of which is another one", round([]int{1, 1, 1, 3}), -1},
		{"two blocks", round([]int{1, 4}, []int{1}), -1},
		{"two blocks, the first of which goes elsewhere", round([]int{4, 1}, []int{1}), -1},
		{"two blocks that go there alone", round([]int{4, 5}, []int{1}, []int{1}), -1},
		{"one block of a greater number", round([]int{4}, []int{1}), 4},
		{"one block of a greater number, by both labels", round([]int{4}, []int{1, 1}), 4},
		{"one block of a greater number that goes elsewhere, too", round([]int{4}, []int{1, 3}), -1},
		{"a fork's ways, both of which lead there by way of one", round([]int{4, 5}, []int{6}, []int{6}, []int{1}), 6},
	}
	for _, x := range list {
		l := Of(x.f)
		at := slices.IndexFunc(l, func(l api.Loop) bool { return l.Head == 1 && slices.Equal(l.Backs, []int{2}) })
		if at < 0 {
			t.Fatalf("%s: the loops are %v", x.name, l)
		}
		if got := Entry(x.f, l[at]); got != x.want {
			t.Errorf("%s: Entry is %d, want %d", x.name, got, x.want)
		}
	}
}

// Promise 10.3: numbers that are no blocks are in no loop.
func TestDepthOfNoBlocks(t *testing.T) {
	for _, x := range flows {
		l := Of(made.Flow(x.to...))
		for _, k := range made.Strangers(len(x.to)) {
			if got := Depth(l, k); got != 0 {
				t.Errorf("%s: Depth of %d, which is none, is %d", x.name, k, got)
			}
		}
	}
}

// Promises 10.3 and 10.5: of no loops.
func TestNoLoops(t *testing.T) {
	for _, l := range [][]api.Loop{nil, {}, Of(made.Flow(nil))} {
		if got := Inner(l); len(got) != 0 {
			t.Errorf("Inner of no loops is %v", got)
		}
		if Depth(l, 0) != 0 || Depth(l, -1) != 0 {
			t.Error("a block is in one of no loops")
		}
	}
}

// Promises 10.3 and 10.5: of some of the loops that Of told alone, and in another order: Depth counts these, and Inner tells their numbers in the list that is given.
func TestSomeLoops(t *testing.T) {
	all := Of(made.Flow([]int{1}, []int{2}, []int{3}, []int{3, 4}, []int{2, 5}, []int{1, 6}, nil))
	list := []struct {
		take, inner []int
		depth       int
	}{
		{[]int{0, 1, 2}, []int{2, 1, 0}, 3},
		{[]int{2, 1, 0}, []int{0, 1, 2}, 3},
		{[]int{1, 0, 2}, []int{2, 0, 1}, 3},
		{[]int{0, 2}, []int{1, 0}, 2},
		{[]int{2}, []int{0}, 1},
		{[]int{0, 0, 2, 0}, []int{2, 0, 1, 3}, 4},
	}
	for _, x := range list {
		var l []api.Loop
		for _, i := range x.take {
			l = append(l, all[i])
		}
		if got := Inner(l); !slices.Equal(got, x.inner) {
			t.Errorf("of the loops %v: Inner is %v, want %v", x.take, got, x.inner)
		}
		if got := Depth(l, 3); got != x.depth {
			t.Errorf("of the loops %v: Depth of 3 is %d, want %d", x.take, got, x.depth)
		}
	}
}

// count is the numbers from one on to ahead of another one.
func count(from, end int) []int {
	var list []int
	for k := from; k < end; k++ {
		list = append(list, k)
	}
	return list
}

// Promises 10.1 to 10.5: the greatest number of blocks, and more: one round of all of them, and as many that each goes to itself.
func TestGreatRounds(t *testing.T) {
	for _, blocks := range []int{2, api.MaxBlocks - 1, api.MaxBlocks, api.MaxBlocks + 1, 1000} {
		last := blocks - 1
		l := Of(made.Long(blocks, func(k int) []int { return []int{(k + last) % blocks} }))
		if want := []api.Loop{{Head: 0, Blocks: count(0, blocks), Backs: []int{1}, Up: -1}}; !reflect.DeepEqual(l, want) {
			t.Errorf("a round of %d blocks: %v", blocks, l)
		}
		l = Of(made.Long(blocks, func(k int) []int { return []int{min(k+1, last), 0} }))
		if len(l) < 1 || !slices.Equal(l[0].Backs, count(0, blocks)) || !slices.Equal(l[0].Blocks, count(0, blocks)) {
			t.Errorf("%d blocks that all go to the first one: %v", blocks, l)
		}
		f := made.Long(blocks, func(k int) []int { return []int{k, min(k+1, last)} })
		if l = Of(f); len(l) != blocks || !slices.Equal(Inner(l), count(0, blocks)) {
			t.Fatalf("%d blocks that each go to themselves: %d loops, and Inner is %v", blocks, len(l), Inner(l))
		}
		for k, x := range l {
			if want := (api.Loop{Head: k, Blocks: []int{k}, Backs: []int{k}, Up: -1}); !reflect.DeepEqual(x, want) || Depth(l, k) != 1 || Entry(f, x) != -1 {
				t.Fatalf("%d blocks that each go to themselves: loop %d is %v, Depth is %d, Entry %d", blocks, k, x, Depth(l, k), Entry(f, x))
			}
		}
	}
}

// Promises 10.1 to 10.5: rounds as deep within each other as there may be blocks for: each block of the first half is a head, to which one of the second half goes back.
func TestDeepRounds(t *testing.T) {
	for _, deep := range []int{1, 2, api.MaxBlocks / 2, 700} {
		blocks := 2 * deep
		f := made.Long(blocks, func(k int) []int {
			switch {
			case k < deep:
				return []int{k + 1}
			case k < blocks-1:
				return []int{blocks - 1 - k, k + 1}
			}
			return []int{0}
		})
		l := Of(f)
		if len(l) != deep {
			t.Fatalf("%d rounds within each other: %d loops", deep, len(l))
		}
		inner := count(0, deep)
		slices.Reverse(inner)
		if got := Inner(l); !slices.Equal(got, inner) {
			t.Fatalf("%d rounds within each other: Inner is %v", deep, got)
		}
		for k, x := range l {
			want := api.Loop{Head: k, Blocks: count(k, blocks-k), Backs: []int{blocks - 1 - k}, Up: k - 1}
			if !reflect.DeepEqual(x, want) || Depth(l, k) != k+1 || Depth(l, blocks-1-k) != k+1 || Entry(f, x) != k-1 {
				t.Fatalf("%d rounds within each other: loop %d is %v, Depth is %d, Entry %d", deep, k, x, Depth(l, k), Entry(f, x))
			}
		}
	}
}

// What is not well shaped, and loops of no function, are promised nothing, but the calls end.
func TestNoFunctions(t *testing.T) {
	wrong := []api.Func{
		{},
		{Blocks: [][]api.Instr{nil}},
		{Blocks: [][]api.Instr{nil, nil, {{Op: api.OBr, To: []int{0}}}}},
		made.Flow([]int{7, -1, 1}, []int{math.MinInt, math.MaxInt, 0}),
		{Blocks: [][]api.Instr{{{Op: api.OBr, To: []int{1}}, {Op: api.OConst}}, {{Op: api.OIf, To: []int{2, 2}}}}},
	}
	strange := []api.Loop{{}, {Head: -1}, {Head: 9, Blocks: []int{7, -3, 7}, Backs: []int{8}, Up: 5}, {Head: math.MinInt, Blocks: []int{math.MaxInt}}}
	for _, f := range wrong {
		for _, l := range append(Of(f), strange...) {
			Entry(f, l)
		}
	}
	Inner(strange)
	for k := -2; k < 4; k++ {
		Depth(strange, k)
	}
}
