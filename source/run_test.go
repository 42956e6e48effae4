package source

import (
	"maps"
	"math"
	"testing"

	"turntable/api"
	"turntable/made"
)

// example is the chapter's.
const example = made.Example

// The chapter's example: three instructions ahead of the loop, eleven each time round, three to look whether it goes on, two at the end.
func TestExample(t *testing.T) {
	must(t, example, []int64{3}, exits(1, 3+3*11+3+2, 9, 2, 1, 0))
	must(t, example, []int64{1}, exits(1, 3+11+3+2, 3, 0))
	must(t, example, []int64{0}, traps(api.TrapNil, 3+3+1, 0))
}

// Promise 13.1: main's parameters are the numbers that it begins with: just so many, fewer, and more.
func TestNumbers(t *testing.T) {
	text := "func main(i i i) i { b0: out %0 out %1 out %2 ret %1 }"
	must(t, text, []int64{7, 8, 9}, exits(8, 4, 0, 7, 8, 9))
	must(t, text, []int64{7, 8}, exits(8, 4, 0, 7, 8, 0))
	must(t, text, []int64{7}, exits(0, 4, 0, 7, 0, 0))
	must(t, text, nil, exits(0, 4, 0, 0, 0, 0))
	must(t, text, []int64{}, exits(0, 4, 0, 0, 0, 0))
	must(t, text, []int64{7, 8, 9, 10, 11}, exits(8, 4, 0, 7, 8, 9))
	must(t, text, []int64{math.MinInt64, math.MaxInt64, -1}, exits(math.MaxInt64, 4, 0, math.MinInt64, math.MaxInt64, -1))
	must(t, "func main(i i i i i i i i) i { b0: out %0 out %7 ret %6 }", []int64{1, 2, 3, 4, 5, 6, 7, 8, 9}, exits(7, 3, 0, 1, 8))
}

// Promise 13.1: main without parameters, with numbers and without.
func TestNoParameters(t *testing.T) {
	for _, in := range [][]int64{nil, {}, {5}, {5, 6, 7, 8, 9, 10, 11, 12, 13}} {
		must(t, "func main() i { b0: %0 = const 4 ret %0 }", in, exits(4, 2, 0))
		must(t, "func main() n { b0: ret }", in, exits(0, 1, 0))
	}
}

// Promise 13.1: main is the first one at work, wherever it stands; it begins with block 0.
func TestMainBegins(t *testing.T) {
	must(t, "func f() i { b0: fail 1 } func main() i { b0: br b2 b1: fail 2 b2: %1 = const 9 if %1 b3 b1 b3: ret %1 } func g() n { b0: fail 3 }", nil, exits(9, 4, 0))
}

// Promises 13.1 and 13.2: New alone: nothing is done yet; main is at work, in block 0, with an empty pool.
func TestNewAlone(t *testing.T) {
	for _, text := range []string{example, "func main() n { b0: ret }", "func main(i i) p { b0: %2 = new ip out %0 ret %2 }", "func main() i { b0: fail 5 }"} {
		r := New(read(t, text), []int64{3})
		for range 3 {
			if got := r.Result(); !same(got, api.Result{}) {
				t.Fatalf("%s: %+v, ahead of any Step", text, got)
			}
		}
		if len(r.work) != 1 || r.work[0].f.Name != "main" || r.work[0].block != 0 || r.work[0].place != 0 || r.objects.Len() != 0 {
			t.Fatalf("%s: %+v", text, r)
		}
	}
}

// Promise 13.1: a value is of a type, and a number; of a pointer the object's number, of a pointer into one also a slot.
func TestValues(t *testing.T) {
	r := New(read(t, `func main(i) n {
b0: %1 = const -6 %2 = nil %3 = new ip %4 = new ppi store.p %4 1 %3 %5 = slot %4 2 %6 = load.p %4 1 %7 = load.p %4 0 %8 = load.i %4 2
 %9 = slot %4 1 %10 = get.p %9 %11 = get.i %5 %12 = same %6 %3 %13 = call.p f %4 %0 %14 = call.i g %1 %15 = reloc.p %4 1 %16 = reloc.d %9 1 br b1
b1: %17 = phi.i b0 %1 %18 = phi.p b0 %4 %19 = phi.d b0 %5 ret
}
func f(p i) p { b0: ret %0 }
func g(i) i { b0: ret %0 }`), []int64{8})
	var values map[int]api.Val
	for r.Result().Ended == api.Goes {
		values = r.work[0].values
		r.Step()
	}
	number := func(n int64) api.Val { return api.Val{Type: api.TInt, N: n} }
	pointer := func(n int64) api.Val { return api.Val{Type: api.TPtr, N: n} }
	inner := func(n int64, slot int) api.Val { return api.Val{Type: api.TDer, N: n, Slot: slot} }
	want := map[int]api.Val{0: number(8), 1: number(-6), 2: pointer(0), 3: pointer(1), 4: pointer(2), 5: inner(2, 2), 6: pointer(1), 7: pointer(0), 8: number(0),
		9: inner(2, 1), 10: pointer(1), 11: number(0), 12: number(1), 13: pointer(2), 14: number(-6), 15: pointer(2), 16: inner(2, 1), 17: number(-6), 18: pointer(2), 19: inner(2, 2)}
	if !maps.Equal(values, want) {
		t.Fatalf("%v, want %v", values, want)
	}
}

// Promise 13.2: each Step does one instruction, or all phis of a block, and counts so many.
func TestSteps(t *testing.T) {
	text := "func main() i { b0: %1 = const 1 %2 = const 2 br b1 b1: %3 = phi.i b0 %1 %4 = phi.i b0 %2 %5 = phi.i b0 %2 out %4 br b2 b2: %6 = phi.i b1 %3 call.n f ret %6 } func f() n { b0: ret }"
	want := []int{1, 2, 3, 6, 7, 8, 9, 10, 11, 12}
	r := New(read(t, text), nil)
	for i, steps := range want {
		r.Step()
		got := r.Result()
		ended := api.Goes
		if i == len(want)-1 {
			ended = api.Exits
		}
		if got.Steps != steps || got.Ended != ended {
			t.Fatalf("Step %d: %+v, want %d steps", i, got, steps)
		}
	}
}

// Promise 13.2: what is given out, and how many words objects take, is told behind the Step that does it, and not ahead.
func TestStepTells(t *testing.T) {
	r := New(read(t, "func main() i { b0: %1 = const 5 out %1 %2 = new ipp out %1 %3 = new . %4 = load.i %3 0 out %1 ret %1 }"), nil)
	for i, want := range []api.Result{goes(1, 0), goes(2, 0, 5), goes(3, 4, 5), goes(4, 4, 5, 5), goes(5, 5, 5, 5), traps(api.TrapSlot, 6, 5, 5, 5)} {
		r.Step()
		if got := r.Result(); !same(got, want) {
			t.Fatalf("Step %d: %+v, want %+v", i, got, want)
		}
	}
}

// Promise 13.2: Step behind the end changes nothing, however the run ended.
func TestStepBehindEnd(t *testing.T) {
	for _, text := range []string{"func main() i { b0: %1 = const 7 out %1 ret %1 }", "func main() n { b0: %1 = new ip ret }", "func main() n { b0: fail 3 }", "func main() i { b0: %1 = nil %2 = load.i %1 0 ret %2 }", "func main() n { b0: call.n main ret }"} {
		p := read(t, text)
		want := Go(p, nil, enough)
		r := New(p, nil)
		for r.Result().Ended == api.Goes {
			r.Step()
		}
		for range 50 {
			r.Step()
			if got := r.Result(); !same(got, want) {
				t.Fatalf("%s: %+v, want %+v", text, got, want)
			}
		}
	}
}

// Promise 13.2: phis take each other's values, all at once.
func TestPhisAtOnce(t *testing.T) {
	// Two that change places, three that go round, and one that takes itself.
	must(t, `func main(i) i {
b0: %1 = const 1 %2 = const 2 %3 = const 3 br b1
b1: %4 = phi.i b0 %0 b2 %9 %5 = phi.i b0 %1 b2 %6 %6 = phi.i b0 %2 b2 %5 if %4 b2 b3
b2: out %5 out %6 %9 = sub %4 %1 br b1
b3: ret %5
}`, []int64{3}, exits(2, 4+3*8+4+1, 0, 1, 2, 2, 1, 1, 2))
	must(t, `func main(i) i {
b0: %1 = const 1 %2 = const 2 %3 = const 3 br b1
b1: %4 = phi.i b2 %9 b0 %0 %5 = phi.i b0 %1 b2 %6 %6 = phi.i b2 %7 b0 %2 %7 = phi.i b0 %3 b2 %5 %8 = phi.i b0 %3 b2 %8 if %4 b2 b3
b2: out %5 out %6 out %7 out %8 %9 = sub %4 %1 br b1
b3: ret %5
}`, []int64{2}, exits(3, 4+2*12+6+1, 0, 1, 2, 3, 3, 2, 3, 1, 3))
}

// Promise 13.2: what a phi takes hangs on the block from which its own was come to, not on the order in which it names them.
func TestPhiFrom(t *testing.T) {
	for _, text := range []string{
		"func main(i) i { b0: %1 = const 10 %2 = const 20 if %0 b1 b2 b1: br b3 b2: br b3 b3: %3 = phi.i b1 %1 b2 %2 ret %3 }",
		"func main(i) i { b0: %1 = const 10 %2 = const 20 if %0 b1 b2 b1: br b3 b2: br b3 b3: %3 = phi.i b2 %2 b1 %1 ret %3 }",
		"func main(i) i { b0: %1 = const 10 %2 = const 20 if %0 b2 b3 b1: %3 = phi.i b3 %2 b2 %1 ret %3 b2: br b1 b3: br b1 }",
	} {
		must(t, text, []int64{1}, exits(10, 6, 0))
		must(t, text, []int64{0}, exits(20, 6, 0))
	}
	// A fork straight to the block, on one of its ways, and on both.
	must(t, "func main(i) i { b0: %1 = const 10 if %0 b1 b2 b1: br b2 b2: %3 = phi.i b1 %1 b0 %0 ret %3 }", []int64{4}, exits(10, 5, 0))
	must(t, "func main(i) i { b0: %1 = const 10 if %0 b1 b2 b1: br b2 b2: %3 = phi.i b1 %1 b0 %0 ret %3 }", nil, exits(0, 4, 0))
	must(t, "func main(i) i { b0: if %0 b1 b1 b1: %3 = phi.i b0 %0 ret %3 }", []int64{4}, exits(4, 3, 0))
	must(t, "func main(i) i { b0: if %0 b1 b1 b1: %3 = phi.i b0 %0 ret %3 }", nil, exits(0, 3, 0))
}

// Promise 13.2: a block that goes to itself is the one from which it came then.
func TestPhiFromItself(t *testing.T) {
	must(t, "func main(i) i { b0: %1 = const 1 br b1 b1: %2 = phi.i b0 %0 b1 %3 out %2 %3 = sub %2 %1 if %3 b1 b2 b2: ret %2 }", []int64{3}, exits(1, 2+3*4+1, 0, 3, 2, 1))
}

// Promise 13.2: phis behind a call know still from which block they were come to: each function at work has its own.
func TestFromOfEach(t *testing.T) {
	must(t, `func main(i) i {
b0: %1 = const 1 %2 = const 2 br b1
b1: %3 = call.i f %0 br b2
b2: %4 = phi.i b1 %3 ret %4
}
func f(i) i { b0: if %0 b1 b2 b1: br b3 b2: br b3 b3: %1 = phi.i b1 %0 b2 %0 ret %1 }`, []int64{6}, exits(6, 3+1+4+1+2, 0))
}

// Promise 13.2: as many phis as there may be in a block are taken by one Step.
func TestManyPhis(t *testing.T) {
	count := api.MaxInstrs - 2
	block := make([]api.Instr, count)
	for i := range block {
		block[i] = api.Instr{Op: api.OPhi, Id: i + 1, Type: api.TInt, Args: []int{0}, To: []int{0}}
	}
	block = append(block, api.Instr{Op: api.ORet, Id: -1, Args: []int{count}})
	first := []api.Instr{{Op: api.OBr, Id: -1, To: []int{1}}}
	p := api.Prog{Funcs: []api.Func{{Name: "main", Params: []int{api.TInt}, Ret: api.TInt, Blocks: [][]api.Instr{first, block}}}}
	r := New(p, []int64{5})
	for i, want := range []api.Result{goes(1, 0), goes(1+count, 0), exits(5, 2+count, 0)} {
		r.Step()
		if got := r.Result(); !same(got, want) {
			t.Fatalf("Step %d: %+v, want %+v", i, got, want)
		}
	}
	for fuel, want := range map[int]api.Result{1: goes(1, 0), 2: goes(1+count, 0), 1 + count: goes(1+count, 0), 2 + count: exits(5, 2+count, 0)} {
		if got := Go(p, []int64{5}, fuel); !same(got, want) {
			t.Fatalf("in %d: %+v, want %+v", fuel, got, want)
		}
	}
}
