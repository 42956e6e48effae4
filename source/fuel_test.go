package source

import (
	"math"
	"slices"
	"testing"

	"turntable/api"
	"turntable/made"
	"turntable/plain"
)

// counts is a program that counts from 0 on for ever, gives each number out, and makes an object each time.
const counts = "func main() n { b0: %0 = const 0 %1 = const 1 br b1 b1: %2 = phi.i b0 %0 b1 %3 out %2 %4 = new p %3 = add %2 %1 br b1 }"

// mustGo holds how far the program of a text comes in so many instructions.
func mustGo(t *testing.T, text string, in []int64, fuel int, want api.Result) {
	t.Helper()
	p := read(t, text)
	mustAgree(t, "Go", p, Go(p, in, fuel), want)
	mustAgree(t, "step by step", p, stepped(p, in, fuel), want)
	mustAgree(t, "as it is told", p, plain.Told(p, in, fuel), want)
}

// Promise 13.6: without fuel, and with fuel below 0, nothing is done.
func TestNoFuel(t *testing.T) {
	for _, text := range []string{example, counts, "func main() n { b0: ret }", "func main() n { b0: fail 1 }"} {
		for _, fuel := range []int{0, -1, -2, -1 << 32, math.MinInt + 1, math.MinInt} {
			mustGo(t, text, []int64{3}, fuel, api.Result{})
		}
	}
}

// Promise 13.6: with just as much fuel as the program takes, with one less, with more.
func TestJustEnough(t *testing.T) {
	for _, text := range []string{
		example,
		"func main() n { b0: ret }",
		"func main() n { b0: fail 7 }",
		"func main(i) i { b0: out %0 %1 = nil %2 = load.i %1 0 ret %2 }",
		"func main() n { b0: call.n main ret }",
		"func main() n { b0: call.n f ret } func f() n { b0: ret }",
	} {
		p := read(t, text)
		in := []int64{3}
		whole := Go(p, in, enough)
		if whole.Ended == api.Goes {
			t.Fatalf("%s never ends", text)
		}
		for _, more := range []int{0, 1, 2, 100, math.MaxInt - whole.Steps} {
			mustAgree(t, "with enough", p, Go(p, in, whole.Steps+more), whole)
		}
		less := Go(p, in, whole.Steps-1)
		if less.Ended != api.Goes || less.Steps != whole.Steps-1 || less.N != 0 || less.Trap != 0 {
			t.Errorf("%s: %+v, with one less than %+v takes", text, less, whole)
		}
	}
	mustGo(t, "func main() i { b0: %1 = const 4 out %1 ret %1 }", nil, 1, goes(1, 0))
	mustGo(t, "func main() i { b0: %1 = const 4 out %1 ret %1 }", nil, 2, goes(2, 0, 4))
	mustGo(t, "func main() i { b0: %1 = const 4 out %1 ret %1 }", nil, 3, exits(4, 3, 0, 4))
}

// Promise 13.6: phis count several at once: the run goes past the fuel, and no farther.
func TestFuelWithinPhis(t *testing.T) {
	text := "func main(i) i { b0: br b1 b1: %1 = phi.i b0 %0 %2 = phi.i b0 %0 %3 = phi.i b0 %0 %4 = phi.i b0 %0 out %3 ret %4 }"
	for fuel, want := range []api.Result{{}, goes(1, 0), goes(5, 0), goes(5, 0), goes(5, 0), goes(5, 0), goes(6, 0, 9), exits(9, 7, 0, 9), exits(9, 7, 0, 9)} {
		mustGo(t, text, []int64{9}, fuel, want)
	}
}

// Promise 13.6: a program that never ends.
func TestNeverEnds(t *testing.T) {
	mustGo(t, "func main() n { b0: br b1 b1: br b1 }", nil, 100000, goes(100000, 0))
	mustGo(t, "func main() n { b0: br b1 b1: call.n f br b1 } func f() n { b0: ret }", nil, 3001, goes(3001, 0))
	// Three ahead, then five each time round.
	mustGo(t, counts, nil, 3+5*4, goes(23, 8, 0, 1, 2, 3))
	mustGo(t, counts, nil, 3+5*4+1, goes(24, 8, 0, 1, 2, 3))
	mustGo(t, counts, nil, 3+5*4+2, goes(25, 8, 0, 1, 2, 3, 4))
	mustGo(t, counts, nil, 3+5*4+3, goes(26, 10, 0, 1, 2, 3, 4))
	if got := Go(read(t, counts), nil, 500003); got.Steps != 500003 || len(got.Out) != 100000 || got.Words != 200000 || got.Out[99999] != 99999 {
		t.Fatalf("%d steps, %d given out, %d words", got.Steps, len(got.Out), got.Words)
	}
}

// mustBegin holds that a result is one of a run that came less far, or just as far, as another one.
func mustBegin(t *testing.T, p api.Prog, early, late api.Result) {
	t.Helper()
	begins := len(early.Out) <= len(late.Out) && slices.Equal(early.Out, late.Out[:len(early.Out)])
	if !begins || early.Steps > late.Steps || early.Words > late.Words {
		t.Fatalf("%+v is no beginning of %+v", early, late)
	}
	if early.Ended != api.Goes {
		mustAgree(t, "behind the end", p, late, early)
	}
}

// Promise 13.7: what a run gave out, and how it ended, in so many instructions is a beginning of what it gives out in more.
func TestBeginnings(t *testing.T) {
	for text, most := range map[string]int{example: 60, counts: 200, down: 400, "func main(i) i { b0: out %0 out %0 fail 3 }": 9} {
		p := read(t, text)
		early := Go(p, []int64{5}, 0)
		for fuel := 1; fuel <= most; fuel++ {
			late := Go(p, []int64{5}, fuel)
			mustBegin(t, p, early, late)
			if late.Ended == api.Goes && late.Steps < fuel {
				t.Fatalf("in %d: %+v", fuel, late)
			}
			early = late
		}
	}
}

// Promises 13.6 and 13.7: the same of programs by chance, and by any two of some fuels.
func TestBeginningsByChance(t *testing.T) {
	m := made.New(7)
	for range 500 {
		p, in := some(m), someNumbers(m)
		early := Go(p, in, 0)
		for fuel := 1; fuel < 120; fuel += 1 + m.Intn(4) {
			late := Go(p, in, fuel)
			mustBegin(t, p, early, late)
			early = late
		}
		mustBegin(t, p, early, Go(p, in, 1000))
	}
}

// Promise 13.7: step by step, too.
func TestStepsBegin(t *testing.T) {
	m := made.New(8)
	for range 300 {
		p, in := some(m), someNumbers(m)
		r := New(p, in)
		early := r.Result()
		for range 150 {
			r.Step()
			late := r.Result()
			mustBegin(t, p, early, late)
			if early.Ended == api.Goes && late.Steps == early.Steps {
				t.Fatalf("a Step did nothing: %+v", late)
			}
			early = late
		}
	}
}
