package graph

import (
	"math"
	"slices"
	"testing"

	"turntable/api"
	"turntable/made"
)

// same tells whether two lists of lists hold the same; a list that is nil and one without elements are the same.
func same(a, b [][]int) bool { return slices.EqualFunc(a, b, slices.Equal[[]int]) }

// The flows whose answers are written down by hand.
var flows = []struct {
	name   string
	to     [][]int
	succs  [][]int
	preds  [][]int
	order  []int
	places []int
	backs  [][2]int
}{
	{"one block", [][]int{{}}, [][]int{{}}, [][]int{{}}, []int{0}, []int{0}, nil},
	{"a block that goes to itself", [][]int{{0}}, [][]int{{0}}, [][]int{{0}}, []int{0}, []int{0}, [][2]int{{0, 0}}},
	{"a block that goes to itself twice", [][]int{{0, 0}}, [][]int{{0}}, [][]int{{0}}, []int{0}, []int{0}, [][2]int{{0, 0}}},
	{"the same block twice", [][]int{{1, 1}, {}}, [][]int{{1}, {}}, [][]int{{}, {0}}, []int{0, 1}, []int{0, 1}, nil},
	{"the same blocks again and again", [][]int{{2, 1, 2, 0, 1}, {}, {}}, [][]int{{2, 1, 0}, {}, {}}, [][]int{{0}, {0}, {0}}, []int{0, 1, 2}, []int{0, 1, 2}, [][2]int{{0, 0}}},
	{"a line", [][]int{{1}, {2}, {}}, [][]int{{1}, {2}, {}}, [][]int{{}, {0}, {1}}, []int{0, 1, 2}, []int{0, 1, 2}, nil},
	{"a line whose numbers fall", [][]int{{3}, {}, {1}, {2}}, [][]int{{3}, {}, {1}, {2}}, [][]int{{}, {2}, {3}, {0}}, []int{0, 3, 2, 1}, []int{0, 3, 2, 1}, nil},
	{"a fork", [][]int{{1, 2}, {}, {}}, [][]int{{1, 2}, {}, {}}, [][]int{{}, {0}, {0}}, []int{0, 2, 1}, []int{0, 2, 1}, nil},
	{"a fork the other way round", [][]int{{2, 1}, {}, {}}, [][]int{{2, 1}, {}, {}}, [][]int{{}, {0}, {0}}, []int{0, 1, 2}, []int{0, 1, 2}, nil},
	{"a fork whose ways meet", [][]int{{1, 2}, {3}, {3}, {}}, [][]int{{1, 2}, {3}, {3}, {}}, [][]int{{}, {0}, {0}, {1, 2}}, []int{0, 2, 1, 3}, []int{0, 2, 1, 3}, nil},
	{"a fork one of whose ways is the other", [][]int{{1, 2}, {2}, {}}, [][]int{{1, 2}, {2}, {}}, [][]int{{}, {0}, {0, 1}}, []int{0, 1, 2}, []int{0, 1, 2}, nil},
	{"the chapter's example", [][]int{{1}, {2, 3}, {4}, {4}, {1, 5}, {}}, [][]int{{1}, {2, 3}, {4}, {4}, {1, 5}, {}},
		[][]int{{}, {0, 4}, {1}, {1}, {2, 3}, {4}}, []int{0, 1, 3, 2, 4, 5}, []int{0, 1, 3, 2, 4, 5}, [][2]int{{4, 1}}},
	{"rounds within rounds", [][]int{{1}, {2, 5}, {3, 4}, {2}, {1}, {}}, [][]int{{1}, {2, 5}, {3, 4}, {2}, {1}, {}},
		[][]int{{}, {0, 4}, {1, 3}, {2}, {2}, {1}}, []int{0, 1, 5, 2, 4, 3}, []int{0, 1, 3, 5, 4, 2}, [][2]int{{3, 2}, {4, 1}}},
	{"a round with two ways in", [][]int{{1, 2}, {2}, {1}}, [][]int{{1, 2}, {2}, {1}}, [][]int{{}, {0, 2}, {0, 1}}, []int{0, 1, 2}, []int{0, 1, 2}, [][2]int{{2, 1}}},
	{"back to the first block, and to itself", [][]int{{1}, {1, 0}}, [][]int{{1}, {1, 0}}, [][]int{{1}, {0, 1}}, []int{0, 1}, []int{0, 1}, [][2]int{{1, 1}, {1, 0}}},
	{"back, in the order of the blocks and not of the order", [][]int{{2}, {2, 0}, {1, 2}}, [][]int{{2}, {2, 0}, {1, 2}}, [][]int{{1}, {2}, {0, 1, 2}}, []int{0, 2, 1}, []int{0, 2, 1},
		[][2]int{{1, 2}, {1, 0}, {2, 2}}},
	{"blocks that nobody goes to", [][]int{{3}, {0, 3}, {}, {}}, [][]int{{3}, {0, 3}, {}, {}}, [][]int{{1}, {}, {}, {0, 1}}, []int{0, 3}, []int{0, -1, -1, 1}, nil},
	{"rounds that are not reached", [][]int{{}, {1, 2}, {1, 0}}, [][]int{{}, {1, 2}, {1, 0}}, [][]int{{2}, {1, 2}, {1}}, []int{0}, []int{0, -1, -1}, nil},
}

// Promises 8.2, 8.3 and 8.4: flows whose answers are written down by hand.
func TestByHand(t *testing.T) {
	for _, x := range flows {
		f := made.Flow(x.to...)
		mustShape(t, f, api.Err{})
		if got := Succs(f); !same(got, x.succs) {
			t.Errorf("%s: Succs is %v, want %v", x.name, got, x.succs)
		}
		if got := Preds(f); !same(got, x.preds) {
			t.Errorf("%s: Preds is %v, want %v", x.name, got, x.preds)
		}
		if got := Order(f); !slices.Equal(got, x.order) {
			t.Errorf("%s: Order is %v, want %v", x.name, got, x.order)
		}
		if got := Places(f); !slices.Equal(got, x.places) {
			t.Errorf("%s: Places is %v, want %v", x.name, got, x.places)
		}
		if got := Backs(f); !slices.Equal(got, x.backs) {
			t.Errorf("%s: Backs is %v, want %v", x.name, got, x.backs)
		}
	}
}

// Promise 8.2: whatever ends a block, its labels are told, and those of no other instruction.
func TestSuccsOfLast(t *testing.T) {
	for _, op := range enders {
		for _, to := range [][]int{nil, {0}, {2}, {2, 1}, {1, 1}, {2, 0, 1, 2}} {
			f := blocksOf([]api.Instr{{Op: api.OPhi, To: []int{2, 77}}, {Op: api.OCall, To: []int{1}}, {Op: op, To: to}}, ret(), ret())
			mustShape(t, f, api.Err{})
			var want []int
			for _, b := range to {
				if !slices.Contains(want, b) {
					want = append(want, b)
				}
			}
			if got := Succs(f); !same(got, [][]int{want, nil, nil}) {
				t.Errorf("Succs of %v is %v", f.Blocks, got)
			}
		}
	}
}

// goes tells whether a block goes to another one.
func goes(f api.Func, from, to int) bool { return slices.Contains(made.To(f, from), to) }

// Promise 8.2: each block that is gone to is told once, where it stands first; and the other way round.
func TestSuccsAndPredsMade(t *testing.T) {
	eachFlow(t, func(f api.Func) {
		succs, preds := Succs(f), Preds(f)
		if len(succs) != len(f.Blocks) || len(preds) != len(f.Blocks) {
			t.Fatalf("of %v: Succs %v, Preds %v", f.Blocks, succs, preds)
		}
		for a := range f.Blocks {
			to := made.To(f, a)
			var want, ahead []int
			for i, b := range to {
				if slices.Index(to, b) == i {
					want = append(want, b)
				}
			}
			for b := range f.Blocks {
				if goes(f, b, a) {
					ahead = append(ahead, b)
				}
			}
			if !slices.Equal(succs[a], want) || !slices.Equal(preds[a], ahead) {
				t.Fatalf("block %d of %v: Succs %v, want %v; Preds %v, want %v", a, f.Blocks, succs[a], want, preds[a], ahead)
			}
		}
	})
}

// doneOrder is the blocks in the order in which they are done, by a function that calls itself, as the chapter tells it.
func doneOrder(f api.Func) []int {
	met := make([]bool, len(f.Blocks))
	var done []int
	var walk func(b int)
	walk = func(b int) {
		met[b] = true
		for _, to := range made.To(f, b) {
			if !met[to] {
				walk(to)
			}
		}
		done = append(done, b)
	}
	walk(0)
	return done
}

// ways is from which block there is a way of at least one edge to which, of edges for which keep holds, by a plain search: ways are put behind each other till there are no new ones.
func ways(f api.Func, keep func(from, to int) bool) [][]bool {
	n := len(f.Blocks)
	way := make([][]bool, n)
	for a := range way {
		way[a] = make([]bool, n)
		for b := range n {
			way[a][b] = goes(f, a, b) && keep(a, b)
		}
	}
	for between := range n {
		for a := range n {
			for b := range n {
				way[a][b] = way[a][b] || way[a][between] && way[between][b]
			}
		}
	}
	return way
}

// anyEdge keeps all edges.
func anyEdge(from, to int) bool { return true }

// Promise 8.3: the order is that in which the blocks are done, the last one first; those that are reached stand in it, each once, and no others.
func TestOrderMade(t *testing.T) {
	eachFlow(t, func(f api.Func) {
		order, places := Order(f), Places(f)
		want := doneOrder(f)
		slices.Reverse(want)
		if !slices.Equal(order, want) {
			t.Fatalf("Order of %v is %v, want %v", f.Blocks, order, want)
		}
		if order[0] != 0 || len(places) != len(f.Blocks) {
			t.Fatalf("Order of %v is %v, Places %v", f.Blocks, order, places)
		}
		way := ways(f, anyEdge)
		for b, place := range places {
			reached := b == 0 || way[0][b]
			if place != slices.Index(order, b) || reached != (place >= 0) {
				t.Fatalf("block %d of %v stands at %d, in the order %v", b, f.Blocks, place, order)
			}
		}
	})
}

// Promise 8.4: the edges that go back, and no others, in the order of their blocks.
func TestBacksMade(t *testing.T) {
	met := 0
	eachFlow(t, func(f api.Func) {
		place := Places(f)
		var want [][2]int
		for a, list := range Succs(f) {
			for _, b := range list {
				if place[a] >= 0 && place[b] <= place[a] {
					want = append(want, [2]int{a, b})
				}
			}
		}
		if got := Backs(f); !slices.Equal(got, want) {
			t.Fatalf("Backs of %v is %v, want %v", f.Blocks, got, want)
		}
		met += len(want)
	})
	if met < 1000 {
		t.Errorf("%d edges went back", met)
	}
}

// Promise 8.6: without the edges that go back no block that is reached follows itself; and each of those edges closes a round.
func TestRounds(t *testing.T) {
	eachFlow(t, func(f api.Func) {
		backs := Backs(f)
		on := ways(f, func(from, to int) bool { return !slices.Contains(backs, [2]int{from, to}) })
		for _, b := range Order(f) {
			if on[b][b] {
				t.Fatalf("block %d of %v follows itself without %v", b, f.Blocks, backs)
			}
		}
		way := ways(f, anyEdge)
		for _, e := range backs {
			if e[0] != e[1] && !way[e[1]][e[0]] {
				t.Fatalf("%v of %v closes no round", e, f.Blocks)
			}
		}
	})
}

// Promises 8.2 to 8.4: as many blocks as there may be, and more, in a line, in a round, and all to all.
func TestMany(t *testing.T) {
	for _, blocks := range []int{api.MaxBlocks - 1, api.MaxBlocks, api.MaxBlocks + 1, 1 << 16, 1 << 20} {
		to := make([][]int, blocks)
		rising := make([]int, blocks)
		for i := range to {
			to[i], rising[i] = []int{(i + 1) % blocks}, i
		}
		f := made.Flow(to...)
		if got := Order(f); !slices.Equal(got, rising) {
			t.Fatalf("Order of %d blocks in a round is not rising", blocks)
		}
		if got := Places(f); !slices.Equal(got, rising) {
			t.Fatalf("Places of %d blocks in a round is not rising", blocks)
		}
		if got := Backs(f); !slices.Equal(got, [][2]int{{blocks - 1, 0}}) {
			t.Fatalf("Backs of %d blocks in a round is %v", blocks, got)
		}
		if got := Reached(Succs(f), []int{5}, 3); got[3] || got[4] || !got[2] || len(got) != blocks {
			t.Fatalf("Reached of %d blocks in a round", blocks)
		}
	}
	everyWay := make([][]int, api.MaxBlocks)
	for i := range everyWay {
		for b := range 2 * api.MaxBlocks {
			everyWay[i] = append(everyWay[i], b%api.MaxBlocks)
		}
	}
	f := made.Flow(everyWay...)
	if got := len(Backs(f)); got != api.MaxBlocks*(api.MaxBlocks+1)/2 {
		t.Errorf("%d edges go back", got)
	}
	for b, list := range Preds(f) {
		if len(list) != api.MaxBlocks || list[b] != b {
			t.Errorf("block %d is gone to from %v", b, list)
		}
	}
}

// Promise 8.1 and all that follows: of functions that are not well shaped nothing is promised but that the calls end.
func TestNotWellShaped(t *testing.T) {
	m := newMaker(3)
	list := []api.Func{{}, blocksOf(nil), blocksOf(nil, nil), made.Flow([]int{-1}), made.Flow([]int{1}), made.Flow([]int{math.MinInt, math.MaxInt, 0})}
	for range 3000 {
		f := m.function(m.Edges(1 + m.Intn(5)))
		m.spoil(f)
		list = append(list, f)
	}
	for _, f := range list {
		Succs(f)
		Preds(f)
		Order(f)
		Places(f)
		Backs(f)
	}
}
