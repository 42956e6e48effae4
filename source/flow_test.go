package source

import (
	"math"
	"strconv"
	"testing"

	"turntable/api"
)

// Promise 13.5: br goes to its block, ahead and back.
func TestBr(t *testing.T) {
	must(t, "func main() i { b0: br b3 b1: out %2 ret %1 b2: %2 = const 2 out %2 br b1 b3: %1 = const 1 out %1 br b2 }", nil, exits(1, 1+3+3+2, 0, 1, 2, 2))
}

// Promise 13.5: if goes to its first block, if its number is not 0, whatever it is; else to its second one.
func TestIf(t *testing.T) {
	text := "func main(i) i { b0: if %0 b2 b1 b1: %1 = const 10 ret %1 b2: %2 = const 20 ret %2 }"
	must(t, text, []int64{0}, exits(10, 3, 0))
	must(t, text, nil, exits(10, 3, 0))
	for _, n := range []int64{1, 2, -1, -2, 1 << 31, 1 << 32, -1 << 32, 1 << 62, math.MaxInt64, math.MinInt64} {
		must(t, text, []int64{n}, exits(20, 3, 0))
	}
}

// Promise 13.5: a call makes a number, a pointer, nil, or nothing.
func TestCall(t *testing.T) {
	must(t, "func main() i { b0: %1 = call.i f out %1 ret %1 } func f() i { b0: %0 = const 6 ret %0 }", nil, exits(6, 5, 0, 6))
	must(t, "func main() i { b0: %1 = call.p f %2 = load.i %1 0 ret %2 } func f() p { b0: %0 = new i %1 = const 8 store.i %0 0 %1 ret %0 }", nil, exits(8, 7, 2))
	must(t, "func main() i { b0: %1 = call.p f %2 = load.i %1 0 ret %2 } func f() p { b0: %0 = nil ret %0 }", nil, traps(api.TrapNil, 4, 0))
	must(t, "func main() i { b0: %1 = const 4 call.n f ret %1 } func f() n { b0: %1 = const 5 out %1 ret }", nil, exits(4, 6, 0, 5))
	// What a call makes is made anew each time round.
	must(t, `func main(i) i {
b0: %1 = const 1 br b1
b1: %2 = phi.i b0 %0 b1 %4 %3 = call.i twice %2 out %3 %4 = sub %2 %1 if %4 b1 b2
b2: ret %3
}
func twice(i) i { b0: %1 = add %0 %0 ret %1 }`, []int64{3}, exits(2, 2+3*7+1, 0, 6, 4, 2))
}

// Promise 13.5: what a call takes are the parameters, each in its place.
func TestCallPasses(t *testing.T) {
	must(t, `func main(i i) i { b0: %2 = new i store.i %2 0 %0 %3 = nil %4 = call.i f %1 %2 %0 %3 ret %4 }
func f(i p i p) i { b0: out %0 %4 = load.i %1 0 out %4 out %2 %5 = same %1 %3 out %5 ret %2 }`, []int64{3, 4}, exits(3, 5+7, 2, 4, 3, 3, 0))
	must(t, "func main(i i i i i i i i) i { b0: %8 = call.i f %7 %6 %5 %4 %3 %2 %1 %0 ret %8 } func f(i i i i i i i i) i { b0: out %0 out %7 ret %3 }", []int64{1, 2, 3, 4, 5, 6, 7, 8}, exits(5, 5, 0, 8, 1))
	must(t, "func main(i) i { b0: %1 = call.i f %0 %0 ret %1 } func f(i i) i { b0: %2 = mul %0 %1 ret %2 }", []int64{5}, exits(25, 4, 0))
}

// Promises 13.1 and 13.5: each function at work has values of its own, also where it is at work twice.
func TestCallOwnValues(t *testing.T) {
	must(t, "func main(i) i { b0: %1 = const 1 %2 = call.i f %0 %3 = add %1 %2 out %3 ret %0 } func f(i) i { b0: %1 = const 100 %2 = const 200 %3 = add %1 %2 ret %3 }", []int64{7}, exits(7, 9, 0, 301))
	text := `func main(i) i { b0: %1 = call.i sum %0 ret %1 }
func sum(i) i { b0: if %0 b1 b2 b1: %1 = const 1 %2 = sub %0 %1 %3 = call.i sum %2 %4 = add %3 %0 out %0 ret %4 b2: ret %0 }`
	must(t, text, []int64{4}, exits(10, 2+4*7+2, 0, 1, 2, 3, 4))
}

// Promise 13.5: a function is found by its name, wherever it stands, and also those whose names begin alike.
func TestCallByName(t *testing.T) {
	must(t, `func f() i { b0: %0 = const 1 ret %0 } func ff() i { b0: %0 = const 2 ret %0 }
func main() n { b0: %1 = call.i ff out %1 %2 = call.i f out %2 %3 = call.i g out %3 %4 = call.i fff out %4 ret }
func fff() i { b0: %0 = const 3 ret %0 } func g() i { b0: %0 = const 4 ret %0 }`, nil, exits(0, 9+8, 0, 2, 1, 4, 3))
}

// down is calls within calls: main, and then as many more than it is told.
const down = `func main(i) i { b0: %1 = call.i down %0 ret %1 }
func down(i) i { b0: out %0 if %0 b1 b2 b1: %1 = const 1 %2 = sub %0 %1 %3 = call.i down %2 %4 = add %3 %1 ret %4 b2: ret %0 }`

// fallen is what is given out on the way down from a number to another one.
func fallen(from, to int64) []int64 {
	var out []int64
	for n := from; n >= to; n-- {
		out = append(out, n)
	}
	return out
}

// Promise 13.5: as many functions at work as there may be, one less, and one more.
func TestDepth(t *testing.T) {
	for n := range int64(api.MaxDepth - 1) {
		must(t, down, []int64{n}, exits(n, 2+7*int(n)+3, 0, fallen(n, 0)...))
	}
	most := int64(api.MaxDepth - 2)
	for n := most + 1; n < most+5; n++ {
		// 39 functions below main are at work: the last one's call traps, and counts.
		must(t, down, []int64{n}, traps(api.TrapDepth, 1+39*5, 0, fallen(n, n-38)...))
	}
	must(t, down, []int64{-1}, traps(api.TrapDepth, 1+39*5, 0, fallen(-1, -39)...))
}

// Promise 13.5: functions that are at work no more do not count: as many again may be.
func TestDepthAgain(t *testing.T) {
	text := "func main(i) i { b0: %1 = call.i down %0 %2 = call.i down %0 %3 = add %1 %2 %4 = call.i down %3 ret %4 }" + down[len("func main(i) i { b0: %1 = call.i down %0 ret %1 }"):]
	most := int64(api.MaxDepth - 2)
	p := read(t, text)
	got := Go(p, []int64{most / 2}, enough)
	if got.Ended != api.Exits || got.N != most {
		t.Fatalf("%+v, want %d", got, most)
	}
	must(t, text, []int64{most/2 + 1}, traps(api.TrapDepth, 2*(1+7*20+3)+1+1+39*5, 0, append(append(fallen(20, 0), fallen(20, 0)...), fallen(40, 2)...)...))
	// Many more calls than there may be at once, one behind the other.
	must(t, "func main(i) n { b0: %1 = const 1 br b1 b1: %2 = phi.i b0 %0 b1 %3 call.n f %3 = sub %2 %1 if %3 b1 b2 b2: ret } func f() n { b0: ret }", []int64{1000}, exits(0, 2+5*1000+1, 0))
}

// Promise 13.5: main may be called, too: only where the first one ends, the run does.
func TestMainCalled(t *testing.T) {
	text := "func main(i) i { b0: if %0 b1 b2 b1: %1 = const 1 %2 = sub %0 %1 %3 = call.i main %2 out %0 %4 = add %3 %0 ret %4 b2: ret %0 }"
	must(t, text, []int64{4}, exits(10, 4*7+2, 0, 1, 2, 3, 4))
	got := Go(read(t, text), []int64{39}, enough)
	if got.Ended != api.Exits || got.N != 39*40/2 {
		t.Fatalf("%+v", got)
	}
	must(t, text, []int64{40}, traps(api.TrapDepth, 40*4, 0))
}

// Promise 13.5: functions that call each other, not themselves.
func TestDepthOfTwo(t *testing.T) {
	text := "func main(i) i { b0: %1 = call.i a %0 ret %1 } func a(i) i { b0: %1 = const 1 %2 = sub %0 %1 if %2 b1 b2 b1: %3 = call.i b %2 ret %3 b2: ret %0 } func b(i) i { b0: %1 = const 1 %2 = sub %0 %1 if %2 b1 b2 b1: %3 = call.i a %2 ret %3 b2: ret %2 }"
	must(t, text, []int64{39}, exits(1, 2+38*5+4, 0))
	must(t, text, []int64{38}, exits(0, 2+37*5+4, 0))
	must(t, text, []int64{40}, traps(api.TrapDepth, 1+39*4, 0))
}

// Promise 13.5: fail is the trap 100 and its N together, in main and below.
func TestFail(t *testing.T) {
	for _, n := range []int{0, 1, 2, 3, 4, 99, 100, 127, 128, 254, 255} {
		fails := "b0: %1 = const 3 out %1 fail " + strconv.Itoa(n) + " }"
		must(t, "func main() i { "+fails, nil, traps(100+n, 3, 0, 3))
		must(t, "func main() n { b0: call.n f ret } func f() n { "+fails, nil, traps(100+n, 4, 0, 3))
	}
}

// Promise 13.5: ret of main with a number, with a pointer, and with nothing.
func TestRetOfMain(t *testing.T) {
	for _, n := range edges {
		must(t, "func main(i) i { b0: ret %0 }", []int64{n}, exits(n, 1, 0))
	}
	must(t, "func main() p { b0: %1 = new ip %2 = new i ret %2 }", nil, exits(0, 3, 5))
	must(t, "func main() p { b0: %1 = nil ret %1 }", nil, exits(0, 2, 0))
	must(t, "func main(i) n { b0: ret }", []int64{5}, exits(0, 1, 0))
	// What was answered to main is not what main answers.
	must(t, "func main() n { b0: %1 = call.i f ret } func f() i { b0: %1 = const 9 ret %1 }", nil, exits(0, 4, 0))
}

// Promise 13.5: ret ends a function, whichever block it is in; what stands in other blocks is not done.
func TestRetFromAnyBlock(t *testing.T) {
	text := "func main(i) i { b0: %1 = call.i f %0 %2 = call.i f %1 ret %2 } func f(i) i { b0: if %0 b1 b2 b1: %1 = const 0 ret %1 b2: %2 = const 5 ret %2 }"
	must(t, text, []int64{0}, exits(0, 3+6, 0))
	must(t, text, []int64{3}, exits(5, 3+6, 0))
}
