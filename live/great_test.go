package live

import (
	"slices"
	"testing"

	"turntable/api"
	"turntable/made"
	"turntable/well"
)

// mustBeWell holds that a function may be run as main.
func mustBeWell(t *testing.T, f api.Func) {
	t.Helper()
	if e := well.Made(api.Prog{Funcs: []api.Func{f}}); e != (api.Err{}) {
		t.Fatalf("%v", e)
	}
}

// numbers is so many numbers from one on, rising by a step each.
func numbers(from, step, count int) []int {
	var l []int
	for i := range count {
		l = append(l, from+step*i)
	}
	return l
}

// Promises 14.1 to 14.3: as many instructions as there may be in one block: values of falling numbers up to the greatest one, then each is given out, the last one first.
func TestMostInstrs(t *testing.T) {
	const count = api.MaxInstrs/2 - 1
	var block []api.Instr
	for i := range count {
		block = append(block, api.Instr{Op: api.OConst, Id: api.MaxValue - i})
	}
	for i := range count {
		block = append(block, api.Instr{Op: api.OOut, Id: -1, Args: []int{api.MaxValue - count + 1 + i}})
	}
	block = append(block, api.Instr{Op: api.OPoll, Id: -1}, api.Instr{Op: api.ORet, Id: -1})
	f := api.Func{Name: "main", Blocks: [][]api.Instr{block}}
	mustBeWell(t, f)
	v := Of(f)
	for i := range block {
		live := max(0, min(i+1, 2*count-1-i))
		if got := v.After(0, i); !slices.Equal(got, numbers(api.MaxValue-live+1, 1, live)) {
			t.Fatalf("behind instruction %d of %d %d values are live, want %d", i, len(block), len(got), live)
		}
	}
	if len(v.In(0)) > 0 || len(v.Out(0)) > 0 || v.Most() != count {
		t.Fatalf("%v, %v, and at most %d", v.In(0), v.Out(0), v.Most())
	}
}

// Promises 14.1 to 14.3: as many blocks as there may be, one behind the other, in any order of their numbers: what is made in each is taken in the last one.
func TestMostBlocks(t *testing.T) {
	last := api.MaxBlocks - 1
	orders := [][]int{numbers(0, 1, api.MaxBlocks), append([]int{0}, numbers(last, -1, last)...)}
	for seed := range 3 {
		order := []int{0}
		for _, k := range made.New(seed).Perm(last) {
			order = append(order, k+1)
		}
		orders = append(orders, order)
	}
	for _, order := range orders {
		f := api.Func{Name: "main", Blocks: make([][]api.Instr, api.MaxBlocks)}
		var outs []api.Instr
		for n, k := range order[:last] {
			f.Blocks[k] = []api.Instr{{Op: api.OConst, Id: n}, {Op: api.OBr, Id: -1, To: []int{order[n+1]}}}
			outs = append(outs, api.Instr{Op: api.OOut, Id: -1, Args: []int{n}})
		}
		f.Blocks[order[last]] = append(outs, api.Instr{Op: api.ORet, Id: -1})
		mustBeWell(t, f)
		v := Of(f)
		for n, k := range order {
			if !slices.Equal(v.In(k), numbers(0, 1, n)) || n < last && !slices.Equal(v.Out(k), numbers(0, 1, n+1)) {
				t.Fatalf("of block %d, the one behind %d others, %v and %v", k, n, v.In(k), v.Out(k))
			}
		}
		if v.Most() != last || len(v.Out(order[last])) > 0 {
			t.Fatalf("at most %d, and at the end %v", v.Most(), v.Out(order[last]))
		}
	}
}

// Promise 14.1: as many loops within each other as there may be: each has a head, and a block that goes back to it, inner ones ahead; what the first block makes the heads take, and each head makes a value that the block takes that goes back to it.
func TestMostLoops(t *testing.T) {
	const deep = (api.MaxBlocks - 2) / 2
	back := func(k int) int { return 2*deep + 1 - k }
	f := api.Func{Name: "main", Params: []int{api.TInt}, Blocks: make([][]api.Instr, 2*deep+2)}
	f.Blocks[0] = []api.Instr{{Op: api.OBr, Id: -1, To: []int{1}}}
	for k := 1; k <= deep; k++ {
		f.Blocks[k] = []api.Instr{{Op: api.OAdd, Id: k, Args: []int{0, 0}}, {Op: api.OBr, Id: -1, To: []int{k + 1}}}
		f.Blocks[back(k)] = []api.Instr{{Op: api.OIf, Id: -1, Args: []int{k}, To: []int{k, back(k) + 1}}}
	}
	f.Blocks[2*deep+1] = []api.Instr{{Op: api.ORet, Id: -1}}
	mustBeWell(t, f)
	v := Of(f)
	for k := 1; k <= deep; k++ {
		// Ahead of a head its own value is not made yet, but those of the loops around it are.
		if want := numbers(0, 1, k); !slices.Equal(v.In(k), want) {
			t.Fatalf("ahead of head %d %v are live", k, v.In(k))
		}
		if want := numbers(0, 1, k+1); !slices.Equal(v.Out(k), want) || !slices.Equal(v.In(back(k)), want) {
			t.Fatalf("behind head %d %v are live, and where it is gone back %v", k, v.Out(k), v.In(back(k)))
		}
		// Behind that its own value is taken no more: the head makes it anew.
		if want := numbers(0, 1, k); !slices.Equal(v.Out(back(k)), want) {
			t.Fatalf("at the end of what goes back to head %d %v are live", k, v.Out(back(k)))
		}
	}
	if v.Most() != deep+1 || len(v.In(2*deep+1)) > 0 {
		t.Fatalf("at most %d, and behind all loops %v", v.Most(), v.In(2*deep+1))
	}
}

// Promise 14.1: as many blocks as there may be go to one, and that has as many phis as there may be: at the end of each block those values are live that the phis take from it.
func TestMostPhis(t *testing.T) {
	last := api.MaxBlocks - 1
	f := api.Func{Name: "main", Params: []int{api.TInt}}
	var to, own, first []int
	for k := range last {
		next := []int{min(k+1, last), last}
		f.Blocks = append(f.Blocks, []api.Instr{{Op: api.OConst, Id: 1000 + k}, {Op: api.OIf, Id: -1, Args: []int{0}, To: next}})
		to, own, first = append(to, k), append(own, 1000+k), append(first, 1000)
	}
	var phis []api.Instr
	for i := range api.MaxInstrs - 2*last - 1 {
		phis = append(phis, api.Instr{Op: api.OPhi, Id: 5000 + i, Type: api.TInt, To: to, Args: [][]int{own, first}[i%2]})
	}
	f.Blocks = append(f.Blocks, append(phis, api.Instr{Op: api.ORet, Id: -1}))
	mustBeWell(t, f)
	v := Of(f)
	for k := range last {
		want := []int{0, 1000, 1000 + k}
		if k == 0 {
			want = []int{0, 1000}
		}
		if k == last-1 {
			want = want[1:]
		}
		if got := v.Out(k); !slices.Equal(got, want) {
			t.Fatalf("at the end of block %d %v are live, want %v", k, got, want)
		}
	}
	if len(v.In(last)) > 0 || len(v.After(last, 0)) > 0 || len(v.After(last, len(phis)-1)) > 0 || v.Most() != 3 {
		t.Fatalf("%v, %v, and at most %d", v.In(last), v.After(last, 0), v.Most())
	}
}
