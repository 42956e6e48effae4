package well

import (
	"strings"
	"testing"

	"turntable/api"
)

// Promise 11.6: a value is made once, as the instructions stand, block by block, and is no parameter.
func TestMadeTwice(t *testing.T) {
	mustTell(t,
		told{"func main() n { b0: %1 = const 1 !%1 = const 1 ret }", api.ErrTwice},
		told{"func main() n { b0: %1 = const 1 %2 = const 1 !%1 = nil ret }", api.ErrTwice},
		told{"func main() n { b0: %1 = const 1 %2 = const 1 !%2 = nil %1 = nil ret }", api.ErrTwice},
		told{"func main() n { b0: %0 = const 1 br b1 b1: !%0 = const 1 ret }", api.ErrTwice},
		// In blocks that no way joins, and in blocks that are gone through the other way round.
		told{"func main(i) n { b0: if %0 b1 b2 b1: %1 = const 1 ret b2: !%1 = const 1 ret }", api.ErrTwice},
		told{"func main(i) n { b0: if %0 b2 b1 b1: %1 = const 1 ret b2: !%1 = const 1 ret }", api.ErrTwice},
		told{"func main(i) n { b0: br b2 b1: %1 = const 1 ret b2: !%1 = const 1 br b1 }", api.ErrTwice},
		told{"func main() n { b0: %1048576 = const 1 !%1048576 = const 1 ret }", api.ErrTwice},
		// A parameter's number.
		told{"func main(i) n { b0: !%0 = const 1 ret }", api.ErrTwice},
		told{"func main(i i i i i i i i) n { b0: !%7 = const 1 ret }", api.ErrTwice},
		told{"func main(i i i i i i i i) n { b0: %8 = const 1 ret }", api.OK},
		told{"func main() n { b0: %0 = const 1 ret }", api.OK},
		told{"func main(i) n { b0: br b1 b1: !%0 = phi.i b0 %0 ret }", api.ErrTwice},
		told{"func main(i) i { b0: !%0 = call.i main %0 ret %0 }", api.ErrTwice},
		told{"func main(i) n { b0: %1 = nil !%1 = slot %1 0 ret }", api.ErrTwice},
		// What makes nothing makes nothing twice; each function has values of its own.
		told{"func main(i) n { b0: out %0 out %0 call.n main %0 call.n main %0 ret }", api.OK},
		told{"func main(i) n { b0: %1 = nil ret } func f() n { b0: %1 = nil %0 = nil ret }", api.OK},
		told{"func main() n { b0: %0 = nil ret } func f(i) n { b0: !%0 = nil ret }", api.ErrTwice},
	)
}

// phis is a program with a block to which two others come, with phis of some blocks.
func phis(text string) string {
	return "func main(i) n { b0: if %0 b1 b2 b1: br b3 b2: br b3 b3: " + text + " ret }"
}

// Promise 11.6: a phi stands behind phis alone, and names just the blocks that come to its block, each once, in any order.
func TestPhi(t *testing.T) {
	mustTell(t,
		told{phis("%1 = phi.i b1 %0 b2 %0"), api.OK},
		told{phis("%1 = phi.i b2 %0 b1 %0"), api.OK},
		told{phis("%1 = phi.i b2 %0 b1 %0 %2 = phi.i b1 %0 b2 %0 %3 = phi.i b1 %0 b2 %0"), api.OK},
		// Behind another instruction.
		told{phis("out %0 !%1 = phi.i b1 %0 b2 %0"), api.ErrPhi},
		told{phis("%1 = phi.i b1 %0 b2 %0 out %0 !%2 = phi.i b1 %0 b2 %0"), api.ErrPhi},
		told{phis("%1 = const 1 !%2 = phi.i b1 %0 b2 %0 %3 = phi.i b1 %0 b2 %0"), api.ErrPhi},
		// Twice, too few, too many, and one that does not come.
		told{phis("!%1 = phi.i b1 %0 b1 %0"), api.ErrPhi},
		told{phis("!%1 = phi.i b1 %0 b2 %0 b1 %0"), api.ErrPhi},
		told{phis("!%1 = phi.i b1 %0 b2 %0 b2 %0"), api.ErrPhi},
		told{phis("!%1 = phi.i b1 %0"), api.ErrPhi},
		told{phis("!%1 = phi.i b2 %0"), api.ErrPhi},
		told{phis("!%1 = phi.i b1 %0 b2 %0 b0 %0"), api.ErrPhi},
		told{phis("!%1 = phi.i b0 %0 b1 %0 b2 %0"), api.ErrPhi},
		told{phis("!%1 = phi.i b1 %0 b0 %0"), api.ErrPhi},
		told{phis("!%1 = phi.i b1 %0 b3 %0"), api.ErrPhi},
		told{phis("!%1 = phi.i b1 %0 b2 %0 b4 %0"), api.ErrPhi},
		told{phis("!%1 = phi.i b255 %0 b2 %0"), api.ErrPhi},
		told{phis("%1 = phi.i b1 %0 b2 %0 !%2 = phi.i b1 %0"), api.ErrPhi},
		told{phis("%1 = phi.i b1 %0 b2 %0 !%2 = phi.i b2 %0 b2 %0"), api.ErrPhi},
		// To block 0 none comes.
		told{"func main(i) n { b0: !%1 = phi.i b0 %0 ret }", api.ErrPhi},
		// A block that goes round comes to itself.
		told{"func main(i) n { b0: br b1 b1: %1 = phi.i b1 %1 b0 %0 if %1 b1 b2 b2: ret }", api.OK},
		told{"func main(i) n { b0: br b1 b1: !%1 = phi.i b0 %0 if %1 b1 b2 b2: ret }", api.ErrPhi},
	)
}

// Promise 11.6: a fork whose two labels are the same comes to a block once.
func TestPhiOfFork(t *testing.T) {
	fork := func(phi string) string { return "func main(i) n { b0: if %0 b1 b1 b1: " + phi + " ret }" }
	mustTell(t,
		told{fork("%1 = phi.i b0 %0"), api.OK},
		told{fork("!%1 = phi.i b0 %0 b0 %0"), api.ErrPhi},
		told{fork("!%1 = phi.i b1 %0"), api.ErrPhi},
	)
}

// Promise 11.6: what is put in later, Source does not take, and Made does.
func TestPutInLater(t *testing.T) {
	mustTellSource(t,
		told{"func main() n { b0: !poll 0 ret }", api.ErrWord},
		told{"func main() n { b0: !poll 1048576 poll 1 ret }", api.ErrWord},
		told{"func main() n { b0: %0 = nil !%1 = reloc.p %0 0 ret }", api.ErrWord},
		told{"func main() n { b0: %0 = nil %1 = slot %0 0 !%2 = reloc.d %1 7 ret }", api.ErrWord},
		told{"func main() n { b0: %0 = nil !mark %0 ret }", api.ErrWord},
		told{"func main() n { b0: !call.n @1 main ret }", api.ErrWord},
		told{"func main(i) i { b0: !%1 = call.i @1048576 main %0 ret %1 }", api.ErrWord},
		told{"func main() n { b0: call.n main !call.n @2 main poll 1 ret }", api.ErrWord},
		told{"func main() n { b0: br b1 b1: !poll 1 br b1 }", api.ErrWord},
		told{"func main()" + rest + "func f(p) n { b0: !mark %0 ret }", api.ErrWord},
	)
	mustTell(t,
		told{"func main() n { b0: call.n main ret }", api.OK},
		told{"func main() n { b0: call.n @0 main ret }", api.OK},
	)
}

// Promise 11.6: within an instruction what is told first, and between two instructions.
func TestMakesFirst(t *testing.T) {
	mustTell(t,
		told{phis("!%0 = phi.i b1 %0"), api.ErrTwice},
		told{phis("out %0 !%0 = phi.i b1 %0 b2 %0"), api.ErrTwice},
		told{phis("!%1 = phi.i b1 %0 %0 = const 1"), api.ErrPhi},
		told{phis("%1 = phi.i b1 %0 b2 %0 !%1 = const 1 %2 = phi.i b1 %0"), api.ErrTwice},
		told{"func main(i) n { b0: %1 = nil !%1 = reloc.p %1 0 ret }", api.ErrTwice},
		told{"func main(i) i { b0: !%0 = call.i @1 main %0 ret %0 }", api.ErrTwice},
		told{"func main(i) n { b0: !%0 = const 1 poll 1 ret }", api.ErrTwice},
		told{"func main(i) n { b0: br b1 b1: !%1 = phi.i b1 %0 mark %1 ret }", api.ErrPhi},
	)
	p, at := read(t, "func main(i) n { b0: !poll 1 %0 = const 1 ret }")
	twice := strings.Index("func main(i) n { b0: poll 1 %0 = const 1 ret }", "%0")
	must(t, p, api.Err{Code: api.ErrWord, At: at}, api.Err{Code: api.ErrTwice, At: twice})
}
