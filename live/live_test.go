package live

import (
	"math"
	"slices"
	"testing"

	"turntable/api"
	"turntable/made"
)

// example is chapter 13's, to which this one comes back.
const example = made.Example

// The chapter's example, all of it.
func TestExample(t *testing.T) {
	must(t, example, 4,
		"0 | 0 1 | 0 1 2 | 0 1 2 > 0 1 2",
		"1 | 1 3 4 | 1 3 4 | 1 3 4 > 1 3 4",
		"1 3 4 | 1 3 4 5 | 1 5 6 | 1 5 6 | 1 5 6 > 1 5 6",
		"4 | 7 | - > -")
}

// Promise 14.1: one block, with parameters that are taken, once and more often, and with parameters that never are.
func TestParameters(t *testing.T) {
	must(t, "func main() n { b0: ret }", 0, "- | - > -")
	must(t, "func main(i) n { b0: ret }", 0, "- | - > -")
	must(t, "func main(i) i { b0: ret %0 }", 1, "0 | - > -")
	must(t, "func main(i i i) i { b0: out %1 ret %1 }", 1, "1 | 1 | - > -")
	must(t, "func main(i i i) i { b0: out %2 out %0 out %2 ret %0 }", 2, "0 2 | 0 2 | 0 2 | 0 | - > -")
	must(t, "func main(i i i i i i i i) i { b0: out %7 out %6 out %5 out %4 out %3 out %2 out %1 ret %0 }", 8,
		"0 1 2 3 4 5 6 7 | 0 1 2 3 4 5 6 | 0 1 2 3 4 5 | 0 1 2 3 4 | 0 1 2 3 | 0 1 2 | 0 1 | 0 | - > -")
	must(t, "func f(p i p) p { b0: store.i %0 3 %1 ret %2 } func main() n { b0: ret }", 3, "0 1 2 | 2 | - > -")
}

// Promise 14.1: a value that is made and never taken is live nowhere, whatever makes it.
func TestNeverTaken(t *testing.T) {
	must(t, "func main() n { b0: %0 = const 1 ret }", 0, "- | - | - > -")
	must(t, "func main() n { b0: %0 = const 1 %1 = const 2 out %0 ret }", 1, "- | 0 | 0 | - | - > -")
	must(t, "func main(i) n { b0: %1 = add %0 %0 %2 = nil %3 = new ip %4 = slot %3 1 %5 = load.p %3 1 %6 = call.i f ret } func f() i { b0: fail 1 }", 1,
		"0 | - | - | 3 | 3 | - | - | - > -")
	// Neither is a phi; what it takes is live all the same, up to where it takes it.
	must(t, "func main(i) n { b0: br b1 b1: %1 = phi.i b0 %0 ret }", 1, "0 | 0 > 0", "- | - | - > -")
	must(t, "func main(i) n { b0: br b1 b1: %1 = phi.i b0 %0 b2 %1 if %0 b2 b3 b2: br b1 b3: ret }", 2,
		"0 | 0 > 0", "0 | 0 1 | 0 1 > 0 1", "0 1 | 0 1 > 0 1", "- | - > -")
}

// Promise 14.1: an instruction that takes one value twice; one that takes what was made right ahead of it.
func TestTakenTwice(t *testing.T) {
	must(t, "func main(i) i { b0: %1 = mul %0 %0 ret %1 }", 1, "0 | 1 | - > -")
	must(t, "func main() i { b0: %0 = new p store.p %0 0 %0 %1 = same %0 %0 ret %1 }", 1, "- | 0 | 0 | 1 | - > -")
	must(t, "func main(i) n { b0: %1 = new i call.n f %1 %1 %0 ret } func f(p p i) n { b0: ret }", 2, "0 | 0 1 | - | - > -")
	must(t, "func main(i) i { b0: %1 = add %0 %0 %2 = add %1 %1 %3 = add %2 %1 ret %3 }", 2, "0 | 1 | 1 2 | 3 | - > -")
}

// Promise 14.1: each instruction that takes values takes all of them, and those that take none leave what is live as it is.
func TestEachOperation(t *testing.T) {
	must(t, `func main(i i) i { b0: %2 = const 5 %3 = sub %0 %1 %4 = div %0 %2 %5 = lt %3 %4 %6 = eq %5 %1 poll 7 out %0 %7 = add %6 %0 ret %7 }`, 4,
		"0 1 | 0 1 2 | 0 1 2 3 | 0 1 3 4 | 0 1 5 | 0 6 | 0 6 | 0 6 | 7 | - > -")
	must(t, `func f(p p i) p { b0: %3 = slot %0 0 %4 = slot %0 1 put.i %3 %2 put.p %4 %1 %5 = get.i %3 %6 = get.p %4 mark %0 store.i %6 0 %5 store.p %0 1 %6 %7 = load.i %1 0 out %7 %8 = load.p %0 1 ret %8 }
func main() n { b0: ret }`, 5,
		"0 1 2 | 0 1 2 3 | 0 1 2 3 4 | 0 1 3 4 | 0 1 3 4 | 0 1 4 5 | 0 1 5 6 | 0 1 5 6 | 0 1 6 | 0 1 | 0 7 | 0 | 8 | - > -")
	must(t, `func f(p) p { b0: %1 = slot %0 0 poll 1 %2 = reloc.p %0 1 %3 = reloc.d %1 1 %4 = get.i %3 out %4 br b1 b1: ret %2 } func main() n { b0: ret }`, 2,
		"0 | 0 1 | 0 1 | 1 2 | 2 3 | 2 4 | 2 | 2 > 2", "2 | - > -")
	must(t, "func main(i i) i { b0: %2 = call.i main %1 %0 %3 = call.i @4 main %2 %2 ret %3 }", 2, "0 1 | 2 | 3 | - > -")
}

// Promise 14.1: a value that is taken by a block's end alone.
func TestTakenByEnd(t *testing.T) {
	must(t, "func main(i i) i { b0: if %1 b1 b2 b1: fail 3 b2: ret %0 }", 2, "0 1 | 0 > 0", "- | - > -", "0 | - > -")
	must(t, "func main(i) p { b0: %1 = nil out %0 br b1 b1: ret %1 }", 2, "0 | 0 1 | 1 | 1 > 1", "1 | - > -")
	must(t, "func main() n { b0: %0 = const 1 br b1 b1: out %0 if %0 b2 b3 b2: ret b3: ret }", 1, "- | 0 | 0 > 0", "0 | 0 | - > -", "- | - > -", "- | - > -")
}

// Promises 14.1 and 14.2: phis that take each other's values, around a loop: each takes at the loop's end what the other one made at its beginning.
func TestSwap(t *testing.T) {
	must(t, "func main(i i) i { b0: br b1 b1: %2 = phi.i b0 %0 b2 %3 %3 = phi.i b0 %1 b2 %2 if %2 b2 b3 b2: out %3 br b1 b3: ret %3 }", 2,
		"0 1 | 0 1 > 0 1", "- | 2 3 | 2 3 | 2 3 > 2 3", "2 3 | 2 3 | 2 3 > 2 3", "3 | - > -")
	// Three of them, in a loop of one block; what the last one makes goes to none from without.
	must(t, "func main(i i i) n { b0: br b1 b1: %3 = phi.i b0 %0 b1 %4 %4 = phi.i b0 %1 b1 %5 %5 = phi.i b0 %2 b1 %3 if %4 b1 b2 b2: ret }", 3,
		"0 1 2 | 0 1 2 > 0 1 2", "- | 3 4 5 | 3 4 5 | 3 4 5 | 3 4 5 > 3 4 5", "- | - > -")
	// One that hands on what the other one made the time before: so that is live up to the end.
	must(t, "func main(i) n { b0: br b1 b1: %1 = phi.i b0 %0 b1 %3 %2 = phi.i b0 %0 b1 %1 out %2 %3 = add %1 %2 if %3 b1 b2 b2: ret }", 2,
		"0 | 0 > 0", "- | 1 2 | 1 2 | 1 2 | 1 3 | 1 3 > 1 3", "- | - > -")
}

// Promise 14.1: a phi that takes what its own block makes, what it makes itself, and what is made ahead of the loop alone.
func TestOwnBlock(t *testing.T) {
	must(t, "func main(i) i { b0: %1 = const 1 br b1 b1: %2 = phi.i b0 %0 b1 %3 %3 = sub %2 %1 if %3 b1 b2 b2: ret %2 }", 3,
		"0 | 0 1 | 0 1 > 0 1", "1 | 1 2 | 1 2 3 | 1 2 3 > 1 2 3", "2 | - > -")
	must(t, "func main(i) i { b0: br b1 b1: %1 = phi.i b0 %0 b1 %1 if %1 b1 b2 b2: ret %1 }", 1, "0 | 0 > 0", "- | 1 | 1 > 1", "1 | - > -")
	must(t, "func main(i) n { b0: br b1 b1: %1 = phi.i b0 %0 b1 %0 out %1 if %1 b1 b2 b2: ret }", 2, "0 | 0 > 0", "0 | 0 1 | 0 1 | 0 > 0", "- | - > -")
}

// Promise 14.1: what a phi takes it takes at the end of just the block from which it comes: on other ways to it that value is not live.
func TestFromItsBlock(t *testing.T) {
	must(t, "func main(i) i { b0: %1 = const 1 %2 = const 2 if %0 b1 b2 b1: br b3 b2: br b3 b3: %3 = phi.i b1 %1 b2 %2 ret %3 }", 3,
		"0 | 0 1 | 0 1 2 | 1 2 > 1 2", "1 | 1 > 1", "2 | 2 > 2", "- | 3 | - > -")
	// The blocks named the other way round.
	must(t, "func main(i) i { b0: %1 = const 1 %2 = const 2 if %0 b1 b2 b1: br b3 b2: br b3 b3: %3 = phi.i b2 %1 b1 %2 ret %3 }", 3,
		"0 | 0 1 | 0 1 2 | 1 2 > 1 2", "2 | 2 > 2", "1 | 1 > 1", "- | 3 | - > -")
	// At the end of a fork: on both ways from it, though one alone leads to the phi.
	must(t, "func main(i) i { b0: %1 = const 1 if %0 b1 b2 b1: %2 = phi.i b0 %1 b2 %0 ret %2 b2: br b1 }", 2,
		"0 | 0 1 | 0 1 > 0 1", "- | 2 | - > -", "0 | 0 > 0")
	// Taken by a phi, and behind it, too.
	must(t, "func main(i) i { b0: if %0 b1 b2 b1: br b3 b2: br b3 b3: %1 = phi.i b1 %0 b2 %0 %2 = add %1 %0 ret %2 }", 2,
		"0 | 0 > 0", "0 | 0 > 0", "0 | 0 > 0", "0 | 0 1 | 2 | - > -")
}

// Promise 14.1: a phi that takes one value from two ways, and from one of three.
func TestOneValueTwoWays(t *testing.T) {
	must(t, "func main(i) i { b0: if %0 b1 b2 b1: br b3 b2: br b3 b3: %1 = phi.i b1 %0 b2 %0 ret %1 }", 1,
		"0 | 0 > 0", "0 | 0 > 0", "0 | 0 > 0", "- | 1 | - > -")
	must(t, `func main(i i) i { b0: if %0 b1 b2 b1: br b5 b2: if %1 b3 b4 b3: br b5 b4: br b5 b5: %2 = phi.i b1 %0 b3 %1 b4 %0 %3 = phi.i b4 %0 b1 %0 b3 %0 %4 = mul %2 %3 ret %4 }`, 2,
		"0 1 | 0 1 > 0 1", "0 | 0 > 0", "0 1 | 0 1 > 0 1", "0 1 | 0 1 > 0 1", "0 | 0 > 0", "- | 2 3 | 2 3 | 4 | - > -")
}

// Promise 14.1: two blocks between which both ways of an if go: that is one edge, and phis name it once.
func TestOneEdgeTwice(t *testing.T) {
	must(t, "func main(i i) i { b0: if %1 b1 b1 b1: ret %0 }", 2, "0 1 | 0 > 0", "0 | - > -")
	must(t, "func main(i i) i { b0: if %1 b1 b1 b1: %2 = phi.i b0 %0 ret %2 }", 2, "0 1 | 0 > 0", "- | 2 | - > -")
	must(t, "func main(i) n { b0: br b1 b1: %1 = phi.i b0 %0 b1 %2 %2 = sub %1 %0 if %2 b1 b1 }", 2, "0 | 0 > 0", "0 | 0 1 | 0 2 | 0 2 > 0 2")
}

// Promise 14.1: loops within loops, and a value that is taken behind both alone: it is live all round.
func TestTakenBehindLoops(t *testing.T) {
	must(t, `func main(i i) i {
b0: %2 = const 1 br b1
b1: %3 = phi.i b0 %0 b3 %6 br b2
b2: %4 = phi.i b1 %0 b2 %5 %5 = sub %4 %2 if %5 b2 b3
b3: %6 = sub %3 %2 if %6 b1 b4
b4: ret %1
}`, 5,
		"0 1 | 0 1 2 | 0 1 2 > 0 1 2",
		"0 1 2 | 0 1 2 3 | 0 1 2 3 > 0 1 2 3",
		"0 1 2 3 | 0 1 2 3 4 | 0 1 2 3 5 | 0 1 2 3 5 > 0 1 2 3 5",
		"0 1 2 3 | 0 1 2 6 | 0 1 2 6 > 0 1 2 6",
		"1 | - > -")
}

// Promise 14.1: loops within loops, and values that are taken at the beginnings of the loops alone: each is live all round, in the inner loop, too; behind the loops no more.
func TestTakenAtBeginning(t *testing.T) {
	must(t, `func main(i i i) n {
b0: br b1
b1: out %0 br b2
b2: out %1 if %1 b3 b4
b3: br b2
b4: if %2 b1 b5
b5: ret
}`, 3,
		"0 1 2 | 0 1 2 > 0 1 2",
		"0 1 2 | 0 1 2 | 0 1 2 > 0 1 2",
		"0 1 2 | 0 1 2 | 0 1 2 > 0 1 2",
		"0 1 2 | 0 1 2 > 0 1 2",
		"0 1 2 | 0 1 2 > 0 1 2",
		"- | - > -")
	// What is made in a loop ahead of where it is taken is not live where the loop goes back.
	must(t, "func main(i) n { b0: br b1 b1: %1 = const 1 br b2 b2: out %1 if %0 b1 b3 b3: ret }", 2,
		"0 | 0 > 0", "0 | 0 1 | 0 1 > 0 1", "0 1 | 0 | 0 > 0", "- | - > -")
	// A value of the outer loop that is taken at the inner one's beginning.
	must(t, "func main(i) n { b0: br b1 b1: %1 = const 1 br b2 b2: out %1 br b3 b3: if %0 b2 b4 b4: if %0 b1 b5 b5: ret }", 2,
		"0 | 0 > 0", "0 | 0 1 | 0 1 > 0 1", "0 1 | 0 1 | 0 1 > 0 1", "0 1 | 0 1 > 0 1", "0 | 0 > 0", "- | - > -")
}

// Promise 14.2: ahead of its phis what they make is not live, and what they take is just as far as others take it; behind each of several phis all of them are made.
func TestAroundPhis(t *testing.T) {
	f := read(t, "func main(i i i) n { b0: br b1 b1: %3 = phi.i b0 %0 %4 = phi.i b0 %1 %5 = phi.i b0 %2 %6 = phi.i b0 %0 out %5 out %3 out %1 out %4 ret }")
	v := Of(f)
	if got := v.In(1); !slices.Equal(got, []int{1}) {
		t.Errorf("In is %v", got)
	}
	for i := range 4 {
		if got := v.After(1, i); !slices.Equal(got, []int{1, 3, 4, 5}) {
			t.Errorf("behind phi %d %v are live", i, got)
		}
	}
	if got := v.After(1, 4); !slices.Equal(got, []int{1, 3, 4}) {
		t.Errorf("behind the first instruction behind the phis %v are live", got)
	}
	if got := v.Out(0); !slices.Equal(got, []int{0, 1, 2}) {
		t.Errorf("at the end from which the phis come %v are live", got)
	}
	// A phi that another block's phi takes: behind the phis it is live, ahead of them it is not.
	must(t, "func main(i) i { b0: br b1 b1: %1 = phi.i b0 %0 br b2 b2: %2 = phi.i b1 %1 br b3 b3: %3 = phi.i b2 %2 ret %3 }", 1,
		"0 | 0 > 0", "- | 1 | 1 > 1", "- | 2 | 2 > 2", "- | 3 | - > -")
}

// Promise 14.2: behind a block's last instruction is its end: also what phis take there is live there.
func TestBehindTheLast(t *testing.T) {
	f := read(t, example)
	v := Of(f)
	for k, want := range [][]int{{0, 1, 2}, {1, 3, 4}, {1, 5, 6}, nil} {
		last := len(f.Blocks[k]) - 1
		if got := v.After(k, last); !slices.Equal(got, want) || !slices.Equal(v.Out(k), want) {
			t.Errorf("of block %d behind the last instruction %v are live, and at the end %v, want %v", k, got, v.Out(k), want)
		}
	}
}

// Promise 14.2: behind ret and fail nothing is live, whatever is live elsewhere.
func TestEndsOfAll(t *testing.T) {
	must(t, "func main(i i) i { b0: if %0 b1 b2 b1: out %1 fail 255 b2: if %1 b3 b4 b3: ret %0 b4: fail 0 }", 2,
		"0 1 | 0 1 > 0 1", "1 | - | - > -", "0 1 | 0 > 0", "0 | - > -", "- | - > -")
}

// Promise 14.2: ahead of the first block parameters alone are live, though its own values and others are taken all round.
func TestFirstBlock(t *testing.T) {
	for _, text := range []string{example, "func main(i i) n { b0: %2 = const 1 br b1 b1: %3 = add %2 %1 br b2 b2: %4 = add %3 %2 if %4 b1 b2 }", "func main() n { b0: %0 = const 1 out %0 br b1 b1: out %0 br b1 }"} {
		f := read(t, text)
		for _, value := range Of(f).In(0) {
			if value >= len(f.Params) {
				t.Errorf("%s: %d is live ahead of the first block", text, value)
			}
		}
	}
	must(t, "func main() n { b0: %0 = const 1 out %0 br b1 b1: out %0 br b1 }", 1, "- | 0 | 0 | 0 > 0", "0 | 0 | 0 > 0")
}

// Promise 14.2: the lists are rising by the values' numbers, wherever these are made.
func TestRising(t *testing.T) {
	must(t, "func main(i i) i { b0: %1048576 = const 1 %70 = const 2 %3 = const 3 %2 = const 4 %500 = add %70 %3 %64 = add %1048576 %2 %63 = add %500 %64 %65 = add %63 %1 ret %65 }", 5,
		"1 | 1 1048576 | 1 70 1048576 | 1 3 70 1048576 | 1 2 3 70 1048576 | 1 2 500 1048576 | 1 64 500 | 1 63 | 65 | - > -")
}

// Promise 14.3: the most by After alone, and by In alone: of the first block, as all that is live ahead of another one is so at the end of those that go to it.
func TestMost(t *testing.T) {
	// Behind an instruction alone.
	must(t, "func main() i { b0: %0 = const 1 %1 = const 2 %2 = const 3 %3 = add %0 %1 %4 = add %3 %2 ret %4 }", 3, "- | 0 | 0 1 | 0 1 2 | 2 3 | 4 | - > -")
	// Behind phis alone.
	must(t, "func main(i) i { b0: br b1 b1: %1 = phi.i b0 %0 %2 = phi.i b0 %0 %3 = phi.i b0 %0 %4 = add %1 %2 %5 = add %4 %3 ret %5 }", 3,
		"0 | 0 > 0", "- | 1 2 3 | 1 2 3 | 1 2 3 | 3 4 | 5 | - > -")
	// At the end of one block, and ahead of the other one.
	must(t, "func main(i) i { b0: %1 = const 1 %2 = const 2 br b1 b1: %3 = add %1 %2 ret %3 }", 2, "- | 1 | 1 2 | 1 2 > 1 2", "1 2 | 3 | - > -")
	// Ahead of the first block alone.
	must(t, "func main(i i i) i { b0: %3 = call.i main %0 %1 %2 ret %3 }", 3, "0 1 2 | 3 | - > -")
	must(t, "func main(i i) i { b0: %2 = add %0 %1 br b1 b1: ret %2 }", 2, "0 1 | 2 | 2 > 2", "2 | - > -")
	must(t, "func main(i i i i i i i i) n { b0: call.n main %7 %6 %5 %4 %3 %2 %1 %0 ret }", 8, "0 1 2 3 4 5 6 7 | - | - > -")
	// In another block than the first one, in the middle of it.
	must(t, "func main(i) i { b0: br b1 b1: %1 = const 1 %2 = const 2 %3 = const 3 %4 = add %1 %2 %5 = add %4 %3 br b2 b2: %6 = add %5 %0 ret %6 }", 4,
		"0 | 0 > 0", "0 | 0 1 | 0 1 2 | 0 1 2 3 | 0 3 4 | 0 5 | 0 5 > 0 5", "0 5 | 6 | - > -")
}

// R5: of a block, or an instruction, that there is not nothing is told.
func TestStrangers(t *testing.T) {
	f := read(t, example)
	v := Of(f)
	for _, k := range []int{-1, -2, math.MinInt, len(f.Blocks), len(f.Blocks) + 1, 1 << 32, math.MaxInt} {
		if len(v.In(k)) > 0 || len(v.Out(k)) > 0 || len(v.After(k, 0)) > 0 {
			t.Errorf("of block %d %v, %v and %v are told", k, v.In(k), v.Out(k), v.After(k, 0))
		}
	}
	for k, block := range f.Blocks {
		for _, i := range []int{-1, -2, -len(block), math.MinInt, len(block), len(block) + 1, 1 << 32, math.MaxInt - 1, math.MaxInt} {
			if got := v.After(k, i); len(got) > 0 {
				t.Errorf("behind instruction %d of block %d %v is told", i, k, got)
			}
		}
	}
	if v.Most() != Of(f).Most() {
		t.Errorf("Most is %d then", v.Most())
	}
}

// Nothing is promised of a nil Live, and of one that Of did not make: there nothing is live.
func TestNothing(t *testing.T) {
	for _, v := range []*Live{nil, {}, Of(api.Func{}), Of(api.Func{Blocks: [][]api.Instr{nil, {}}})} {
		for k := -1; k < 3; k++ {
			if len(v.In(k)) > 0 || len(v.Out(k)) > 0 || len(v.After(k, 0)) > 0 || v.Most() != 0 {
				t.Errorf("of block %d %v, %v and %v are told, and %d", k, v.In(k), v.Out(k), v.After(k, 0), v.Most())
			}
		}
	}
}
