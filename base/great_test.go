package base

import (
	"slices"
	"testing"

	"turntable/api"
	"turntable/made"
)

// Promises 15.1 to 15.3: as many slots as there may be instructions, with falling values from the greatest one on: no phi is put in, so all may be run.
func TestMostSlots(t *testing.T) {
	block := []api.Instr{{Op: api.ONew, Id: 0, Name: "i"}}
	var l []int
	for i := range api.MaxInstrs - 2 {
		block = append(block, api.Instr{Op: api.OSlot, Id: api.MaxValue - i, Args: []int{0}})
		l = append(l, api.MaxValue-i)
	}
	slices.Reverse(l)
	f := api.Func{Name: "main", Blocks: [][]api.Instr{append(block, api.Instr{Op: api.ORet, Id: -1})}}
	g, pairs := Of(f)
	mustBe(t, "Of", g, f)
	mustBeWell(t, api.Prog{Funcs: []api.Func{g}})
	if len(pairs) != len(l) || Fresh(f) != api.MaxValue+1 {
		t.Fatalf("%d pairs, and %d", len(pairs), Fresh(f))
	}
	for i, p := range pairs {
		if p != (api.Pair{Der: l[i], Base: 0}) || Find(pairs, l[i]) != 0 {
			t.Fatalf("pair %d is %v", i, p)
		}
	}
	if got := With(l, pairs); len(got) != len(l)+1 || got[0] != 0 || !slices.Equal(got[1:], l) {
		t.Fatalf("With is %v", got)
	}
}

// most is a function of as many blocks as there may be, all of which go to the last one, and that has so many phis of pointers into objects, each of which takes a block's own from it; their values fall from one on.
func most(phis, from int) api.Func {
	last := api.MaxBlocks - 1
	f := api.Func{Name: "main", Params: []int{api.TInt}}
	var to, own []int
	for k := range last {
		slot := api.Instr{Op: api.OSlot, Id: 1000 + k, Args: []int{1}, N: int64(k % 2)}
		f.Blocks = append(f.Blocks, []api.Instr{slot, {Op: api.OIf, Id: -1, Args: []int{0}, To: []int{min(k+1, last), last}}})
		to, own = append(to, k), append(own, 1000+k)
	}
	f.Blocks[0] = slices.Insert(f.Blocks[0], 0, api.Instr{Op: api.ONew, Id: 1, Name: "ip"})
	var block []api.Instr
	for i := range phis {
		block = append(block, api.Instr{Op: api.OPhi, Id: from - i, Type: api.TDer, To: to, Args: own, At: i})
	}
	f.Blocks = append(f.Blocks, append(block, api.Instr{Op: api.ORet, Id: -1}))
	return f
}

// Promise 15.2: as many phis as there is room for beside what is put in, from as many blocks as there may be, with values up to the greatest one that may be run.
func TestMostPhis(t *testing.T) {
	const phis = (api.MaxInstrs - 2*(api.MaxBlocks-1) - 2) / 2
	f := most(phis, api.MaxValue-phis)
	g, pairs := Of(f)
	mustBeWell(t, api.Prog{Funcs: []api.Func{g}})
	if len(g.Blocks[255]) != 2*phis+1 || len(pairs) != 255+phis {
		t.Fatalf("%d instructions, and %d pairs", len(g.Blocks[255]), len(pairs))
	}
	ones := slices.Repeat([]int{1}, 255)
	for i := range phis {
		x, y := g.Blocks[255][2*i], g.Blocks[255][2*i+1]
		if x.Id != api.MaxValue-phis-i || y.Id != api.MaxValue-phis+1+i || y.Type != api.TPtr || y.At != i || !slices.Equal(y.To, x.To) || !slices.Equal(y.Args, ones) {
			t.Fatalf("beside phi %d stands %v", i, y)
		}
		if Find(pairs, x.Id) != y.Id {
			t.Fatalf("%d belongs to %d, want %d", x.Id, Find(pairs, x.Id), y.Id)
		}
	}
	mustBe(t, "without what was put in", without(g, greatest(f)), f)
}

// Promises 15.1 and 15.2: where there is no room for what is put in, it is put in, for all that: the values count on past the greatest one that may be run, and there are more instructions.
func TestPastTheLimits(t *testing.T) {
	const phis = api.MaxInstrs - 2*(api.MaxBlocks-1) - 2
	f := most(phis, api.MaxValue)
	mustBeWell(t, api.Prog{Funcs: []api.Func{f}})
	g, pairs := Of(f)
	if Fresh(f) != api.MaxValue+1 || Fresh(g) != api.MaxValue+1+phis || len(g.Blocks[255]) != 2*phis+1 {
		t.Fatalf("%d, then %d, and %d instructions", Fresh(f), Fresh(g), len(g.Blocks[255]))
	}
	for i := range phis {
		if got := Find(pairs, api.MaxValue-i); got != api.MaxValue+1+i || g.Blocks[255][2*i+1].Id != got {
			t.Fatalf("%d belongs to %d", api.MaxValue-i, got)
		}
	}
}

// Promises 15.1 to 15.3: great functions by chance.
func TestGreatByChance(t *testing.T) {
	phis := 0
	for seed := range 80 {
		m := made.New(9000 + seed)
		for _, f := range made.Unmoved(m.Program(2, 100, seed%2 == 0)).Funcs {
			f = joined(m, small(f))
			hold(t, f)
			g, _ := Of(f)
			phis += Fresh(g) - Fresh(f)
		}
	}
	if phis < 2000 {
		t.Errorf("%d phis were put in", phis)
	}
}

// small is a function whose values are the least ones that there may be, in the order in which they were.
func small(f api.Func) api.Func {
	f = made.Bare(f)
	all := slices.Sorted(slices.Values(values(f)))
	for _, block := range f.Blocks {
		for i, x := range block {
			if x.Id >= 0 {
				block[i].Id = slices.Index(all, x.Id)
			}
			for n, value := range x.Args {
				x.Args[n] = slices.Index(all, value)
			}
		}
	}
	return f
}
