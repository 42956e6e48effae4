package base

import (
	"testing"

	"turntable/api"
)

// Promise 15.1: one more than the greatest value, whichever makes it, and wherever; 0, if there is none.
func TestFresh(t *testing.T) {
	for _, c := range []struct {
		text string
		want int
	}{
		// No values at all: nothing is made, also where a call answers nothing.
		{"func main() n { b0: ret }", 0},
		{"func main() n { b0: fail 3 }", 0},
		{"func main() n { b0: call.n main poll 9 br b1 b1: ret }", 0},
		// Parameters alone.
		{"func main(i) n { b0: ret }", 1},
		{"func main(i i i) i { b0: ret %1 }", 3},
		{"func main(i i i i i i i i) n { b0: ret }", 8},
		// What instructions make, and parameters.
		{"func main() n { b0: %0 = const 77 ret }", 1},
		{"func main(i) n { b0: %1 = const 77 ret }", 2},
		{"func main(i i) n { b0: %9 = const 77 ret }", 10},
		{"func main() n { b0: %5 = const 1 %0 = new i store.i %0 0 %5 out %5 ret }", 6},
		// The greatest one is made first, in the middle, last; in a block that stands ahead, and behind.
		{"func main() n { b0: %30 = const 1 %20 = const 1 %10 = const 1 ret }", 31},
		{"func main() n { b0: %20 = const 1 %30 = const 1 %10 = const 1 ret }", 31},
		{"func main() n { b0: %20 = const 1 %10 = const 1 %30 = const 1 ret }", 31},
		{"func main() n { b0: %20 = const 1 br b2 b1: %30 = const 1 ret b2: %10 = const 1 br b1 }", 31},
		{"func main() n { b0: %30 = const 1 br b2 b1: %20 = const 1 ret b2: %10 = const 1 br b1 }", 31},
		{"func main() n { b0: %20 = const 1 br b2 b1: %10 = const 1 ret b2: %30 = const 1 br b1 }", 31},
		// Of each kind: a phi, a call, a pointer, a pointer into an object.
		{"func main(i) n { b0: br b1 b1: %40 = phi.i b0 %0 ret }", 41},
		{"func main(i) i { b0: %41 = call.i main %0 ret %41 }", 42},
		{"func main() n { b0: %42 = nil ret }", 43},
		{"func main() n { b0: %2 = new i %43 = slot %2 0 ret }", 44},
		{"func main() n { b0: %2 = new i %43 = slot %2 0 br b1 b1: %44 = phi.d b0 %43 ret }", 45},
		// Only this function's count, and no numbers but values.
		{"func main() n { b0: %3 = const 99 poll 88 ret } func f(i i i i i i) n { b0: %70 = nil ret }", 4},
		{"func main() n { b0: %3 = new iiii %2 = load.i %3 3 fail 200 }", 4},
		// The greatest value that may be.
		{"func main() n { b0: %1048576 = nil %4 = nil ret }", api.MaxValue + 1},
		{"func main() n { b0: %1048575 = nil ret }", api.MaxValue},
	} {
		if got := Fresh(read(t, c.text)); got != c.want {
			t.Errorf("%s: %d, want %d", c.text, got, c.want)
		}
	}
}

// Promises 15.1 and 15.2: Fresh of what Of makes counts on behind the phis that were put in.
func TestFreshBehind(t *testing.T) {
	f := read(t, "func main() n { b0: %0 = new i %1 = slot %0 0 br b1 b1: %2 = phi.d b0 %1 %3 = phi.d b0 %1 br b2 b2: %4 = phi.d b1 %3 ret }")
	g, _ := Of(f)
	if Fresh(f) != 5 || Fresh(g) != 8 {
		t.Errorf("%d and %d", Fresh(f), Fresh(g))
	}
}
