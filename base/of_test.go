package base

import (
	"slices"
	"testing"

	"turntable/api"
	"turntable/made"
	"turntable/show"
)

// must holds what Of makes of the first function of a text, as a text, and its pairs; what is made must be a program that may be run, too.
func must(t *testing.T, text, want, pairs string) {
	t.Helper()
	p := program(t, text)
	got, l := Of(p.Funcs[0])
	if wanted := read(t, want); show.Func(got) != show.Func(wanted) {
		t.Errorf("Of is\n%s, want\n%s", show.Func(got), show.Func(wanted))
	}
	if words(l) != pairs {
		t.Errorf("%s: the pairs are %s, want %s", text, words(l), pairs)
	}
	// What is written down by hand is what is told, too: else one of both would be wrong.
	for _, f := range p.Funcs {
		hold(t, f)
	}
	p.Funcs[0] = got
	mustBeWell(t, p)
}

// mustStay holds that the first function of a text stays as it is, and its pairs.
func mustStay(t *testing.T, text, pairs string) {
	t.Helper()
	must(t, text, text, pairs)
}

// Promise 15.2: the chapter's example.
func TestExample(t *testing.T) {
	must(t, made.IntoExample, `func main(i) i {
b0: %1 = new ii %2 = const 1 %3 = slot %1 0 br b1
b1: %4 = phi.d b0 %3 b2 %8 %10 = phi.p b0 %1 b2 %6 %5 = phi.i b0 %0 b2 %7 if %5 b2 b3
b2: put.i %4 %5 %7 = sub %5 %2 %6 = new ii %8 = slot %6 1 br b1
b3: %9 = get.i %4 ret %9
}`, "3>1 4>10 8>6")
}

// Promise 15.2: a function without pointers into objects stays as it is, and has no pairs.
func TestWithout(t *testing.T) {
	mustStay(t, made.Example, "")
	mustStay(t, "func main() n { b0: ret }", "")
	mustStay(t, "func main(i i) i { b0: %2 = add %0 %1 out %2 ret %2 }", "")
	mustStay(t, "func main() n { b0: fail 7 }", "")
	mustStay(t, "func f(p i) p { b0: %2 = load.p %0 1 store.p %2 0 %0 br b1 b1: %3 = phi.p b0 %0 b1 %2 if %1 b1 b2 b2: ret %3 } func main() n { b0: ret }", "")
	// Only the function that is asked counts.
	mustStay(t, "func main() n { b0: call.n f ret } func f() n { b0: %0 = new i %1 = slot %0 0 br b1 b1: %2 = phi.d b0 %1 ret }", "")
	// Polls, marks, and calls with numbers are nothing to it.
	mustStay(t, "func main() n { b0: poll 1 %0 = new p mark %0 store.p %0 0 %0 call.n @2 main ret }", "")
}

// Promise 15.2: what slot makes belongs to what slot takes, however that is made.
func TestSlots(t *testing.T) {
	mustStay(t, "func main() n { b0: %0 = new ii %1 = slot %0 1 ret }", "1>0")
	// Two slots of one object, the same slot twice, and slots of two objects.
	mustStay(t, "func main() n { b0: %0 = new ii %1 = slot %0 0 %2 = slot %0 1 ret }", "1>0 2>0")
	mustStay(t, "func main() n { b0: %0 = new ii %1 = slot %0 1 %2 = slot %0 1 ret }", "1>0 2>0")
	mustStay(t, "func main() n { b0: %0 = new ii %1 = new ii %2 = slot %1 0 %3 = slot %0 0 %4 = slot %1 1 ret }", "2>1 3>0 4>1")
	// Of a parameter, of nil, of what was loaded, got, called, and of a phi.
	mustStay(t, "func f(p p) n { b0: %2 = slot %1 0 %3 = slot %0 15 ret } func main() n { b0: ret }", "2>1 3>0")
	mustStay(t, "func main() n { b0: %7 = nil %9 = slot %7 0 ret }", "9>7")
	mustStay(t, "func f(p) p { b0: %1 = load.p %0 0 %2 = slot %1 0 %3 = get.p %2 %4 = slot %3 2 %5 = call.p f %3 %6 = slot %5 1 ret %5 } func main() n { b0: ret }", "2>1 4>3 6>5")
	mustStay(t, "func f(p i) n { b0: br b1 b1: %2 = phi.p b0 %0 b1 %3 %3 = phi.p b0 %0 b1 %2 %4 = slot %2 0 if %1 b1 b2 b2: %5 = slot %3 0 ret } func main() n { b0: ret }", "4>2 5>3")
	// Of what stands in another block.
	mustStay(t, "func main(i) n { b0: %1 = new i if %0 b1 b2 b1: %2 = slot %1 0 ret b2: %3 = slot %1 0 ret }", "2>1 3>1")
}

// Promise 15.2: one phi, which takes what slot makes.
func TestOnePhi(t *testing.T) {
	must(t, "func main() i { b0: %0 = new i %1 = slot %0 0 br b1 b1: %2 = phi.d b0 %1 %3 = get.i %2 ret %3 }",
		"func main() i { b0: %0 = new i %1 = slot %0 0 br b1 b1: %2 = phi.d b0 %1 %4 = phi.p b0 %0 %3 = get.i %2 ret %3 }", "1>0 2>4")
	// The greatest value is not the last one that is made, and far from others.
	must(t, "func main() n { b0: %0 = new i %500 = slot %0 0 br b1 b1: %2 = phi.d b0 %500 ret }",
		"func main() n { b0: %0 = new i %500 = slot %0 0 br b1 b1: %2 = phi.d b0 %500 %501 = phi.p b0 %0 ret }", "2>501 500>0")
	// What a phi takes from several ways.
	must(t, "func main(i) n { b0: %1 = new i %2 = new i if %0 b1 b2 b1: %3 = slot %1 0 br b3 b2: %4 = slot %2 0 br b3 b3: %5 = phi.d b2 %4 b1 %3 ret }",
		"func main(i) n { b0: %1 = new i %2 = new i if %0 b1 b2 b1: %3 = slot %1 0 br b3 b2: %4 = slot %2 0 br b3 b3: %5 = phi.d b2 %4 b1 %3 %6 = phi.p b2 %2 b1 %1 ret }", "3>1 4>2 5>6")
	// One value from two ways; and two that belong to one object.
	must(t, "func main(i) n { b0: %1 = new i %2 = slot %1 0 if %0 b1 b2 b1: br b3 b2: br b3 b3: %3 = phi.d b1 %2 b2 %2 ret }",
		"func main(i) n { b0: %1 = new i %2 = slot %1 0 if %0 b1 b2 b1: br b3 b2: br b3 b3: %3 = phi.d b1 %2 b2 %2 %4 = phi.p b1 %1 b2 %1 ret }", "2>1 3>4")
	must(t, "func main(i) n { b0: %1 = new ii if %0 b1 b2 b1: %2 = slot %1 0 br b3 b2: %3 = slot %1 1 br b3 b3: %4 = phi.d b1 %2 b2 %3 ret }",
		"func main(i) n { b0: %1 = new ii if %0 b1 b2 b1: %2 = slot %1 0 br b3 b2: %3 = slot %1 1 br b3 b3: %4 = phi.d b1 %2 b2 %3 %5 = phi.p b1 %1 b2 %1 ret }", "2>1 3>1 4>5")
}

// Promise 15.2: two phis in one block, and phis in several ones: the new values count on as the phis stand, not as their blocks follow each other, nor as their values rise.
func TestSeveralPhis(t *testing.T) {
	must(t, "func main() n { b0: %0 = new i %1 = new i %2 = slot %0 0 %3 = slot %1 0 br b1 b1: %4 = phi.d b0 %2 %5 = phi.d b0 %3 ret }",
		"func main() n { b0: %0 = new i %1 = new i %2 = slot %0 0 %3 = slot %1 0 br b1 b1: %4 = phi.d b0 %2 %6 = phi.p b0 %0 %5 = phi.d b0 %3 %7 = phi.p b0 %1 ret }", "2>0 3>1 4>6 5>7")
	must(t, "func main() n { b0: %0 = new i %1 = slot %0 0 br b1 b1: %9 = phi.d b0 %1 %8 = phi.d b0 %1 %7 = phi.d b0 %1 ret }",
		"func main() n { b0: %0 = new i %1 = slot %0 0 br b1 b1: %9 = phi.d b0 %1 %10 = phi.p b0 %0 %8 = phi.d b0 %1 %11 = phi.p b0 %0 %7 = phi.d b0 %1 %12 = phi.p b0 %0 ret }", "1>0 7>12 8>11 9>10")
	must(t, "func main() n { b0: %0 = new i %1 = slot %0 0 br b3 b1: %2 = phi.d b2 %3 ret b2: %3 = phi.d b3 %4 br b1 b3: %4 = phi.d b0 %1 br b2 }",
		"func main() n { b0: %0 = new i %1 = slot %0 0 br b3 b1: %2 = phi.d b2 %3 %5 = phi.p b2 %6 ret b2: %3 = phi.d b3 %4 %6 = phi.p b3 %7 br b1 b3: %4 = phi.d b0 %1 %7 = phi.p b0 %0 br b2 }", "1>0 2>5 3>6 4>7")
}

// Promise 15.2: phis that take what other phis make: its own around a loop, each other's, and of the block ahead.
func TestPhisOfPhis(t *testing.T) {
	must(t, "func main(i) n { b0: %1 = new i %2 = slot %1 0 br b1 b1: %3 = phi.d b0 %2 b1 %3 if %0 b1 b2 b2: ret }",
		"func main(i) n { b0: %1 = new i %2 = slot %1 0 br b1 b1: %3 = phi.d b0 %2 b1 %3 %4 = phi.p b0 %1 b1 %4 if %0 b1 b2 b2: ret }", "2>1 3>4")
	must(t, "func main(i) n { b0: %1 = new i %2 = new i %3 = slot %1 0 %4 = slot %2 0 br b1 b1: %5 = phi.d b0 %3 b1 %6 %6 = phi.d b1 %5 b0 %4 if %0 b1 b2 b2: ret }",
		"func main(i) n { b0: %1 = new i %2 = new i %3 = slot %1 0 %4 = slot %2 0 br b1 b1: %5 = phi.d b0 %3 b1 %6 %7 = phi.p b0 %1 b1 %8 %6 = phi.d b1 %5 b0 %4 %8 = phi.p b1 %7 b0 %2 if %0 b1 b2 b2: ret }", "3>1 4>2 5>7 6>8")
	must(t, "func main(i) n { b0: %1 = new i %2 = slot %1 0 br b1 b1: %3 = phi.d b0 %2 b3 %4 if %0 b2 b4 b2: br b3 b3: %4 = phi.d b2 %3 if %0 b1 b4 b4: %5 = phi.d b1 %3 b3 %4 ret }",
		"func main(i) n { b0: %1 = new i %2 = slot %1 0 br b1 b1: %3 = phi.d b0 %2 b3 %4 %6 = phi.p b0 %1 b3 %7 if %0 b2 b4 b2: br b3 b3: %4 = phi.d b2 %3 %7 = phi.p b2 %6 if %0 b1 b4 b4: %5 = phi.d b1 %3 b3 %4 %8 = phi.p b1 %6 b3 %7 ret }", "2>1 3>6 4>7 5>8")
}

// Promise 15.2: phis of other types, ahead, between and behind, stay where they are.
func TestOtherPhis(t *testing.T) {
	must(t, "func main(i) n { b0: %1 = new i %2 = slot %1 0 br b1 b1: %3 = phi.p b0 %1 %4 = phi.d b0 %2 %5 = phi.i b0 %0 %6 = phi.p b0 %1 %7 = phi.d b0 %2 %8 = phi.i b0 %0 out %8 ret }",
		"func main(i) n { b0: %1 = new i %2 = slot %1 0 br b1 b1: %3 = phi.p b0 %1 %4 = phi.d b0 %2 %9 = phi.p b0 %1 %5 = phi.i b0 %0 %6 = phi.p b0 %1 %7 = phi.d b0 %2 %10 = phi.p b0 %1 %8 = phi.i b0 %0 out %8 ret }", "2>1 4>9 7>10")
	// A phi that makes the same stands already: another one is put in, for all that.
	must(t, "func main() n { b0: %0 = new i %1 = slot %0 0 br b1 b1: %2 = phi.d b0 %1 %3 = phi.p b0 %0 ret }",
		"func main() n { b0: %0 = new i %1 = slot %0 0 br b1 b1: %2 = phi.d b0 %1 %4 = phi.p b0 %0 %3 = phi.p b0 %0 ret }", "1>0 2>4")
}

// Promise 15.2: the pairs rise, though the values are not made in their order; what they belong to may fall.
func TestPairsRise(t *testing.T) {
	mustStay(t, "func main() n { b0: %9 = new i %8 = slot %9 0 %7 = new i %6 = slot %7 0 %5 = new i %4 = slot %5 0 ret }", "4>5 6>7 8>9")
	mustStay(t, "func main() n { b0: %1 = new i %900 = slot %1 0 %0 = slot %1 0 %1048576 = slot %1 0 %30 = slot %1 0 ret }", "0>1 30>1 900>1 1048576>1")
	mustStay(t, "func main(i) n { b0: %1 = new i br b2 b1: %5 = slot %1 0 ret b2: %9 = slot %1 0 if %0 b1 b3 b3: %2 = slot %1 0 ret }", "2>1 5>1 9>1")
	must(t, "func main() n { b0: %8 = new i %9 = slot %8 0 br b1 b1: %0 = phi.d b0 %9 %4 = slot %8 0 ret }",
		"func main() n { b0: %8 = new i %9 = slot %8 0 br b1 b1: %0 = phi.d b0 %9 %10 = phi.p b0 %8 %4 = slot %8 0 ret }", "0>10 4>8 9>8")
}

// Promise 15.2: the phi that is put in has the operation, the type, the blocks, in their order, and the place (At) of that beside which it stands, and nothing else.
func TestPutIn(t *testing.T) {
	text := "func main(i) n { b0: %1 = new i %2 = slot %1 0 if %0 b1 b2 b1: br b3 b2: br b3 b3: %3 = phi.i b1 %0 b2 %0 %4 = phi.d b2 %2 b1 %2 %5 = phi.d b1 %2 b2 %2 ret }"
	f := read(t, text)
	g, _ := Of(f)
	block := g.Blocks[3]
	for i, want := range map[int]api.Instr{
		2: {Op: api.OPhi, Id: 6, Type: api.TPtr, Args: []int{1, 1}, To: []int{2, 1}, At: f.Blocks[3][1].At},
		4: {Op: api.OPhi, Id: 7, Type: api.TPtr, Args: []int{1, 1}, To: []int{1, 2}, At: f.Blocks[3][2].At},
	} {
		got := block[i]
		if !slices.Equal(got.Args, want.Args) || !slices.Equal(got.To, want.To) {
			t.Errorf("%+v, want %+v", got, want)
		}
		if got.Op != want.Op || got.Id != want.Id || got.Type != want.Type || got.At != want.At || got.N != 0 || got.Name != "" {
			t.Errorf("%+v, want %+v", got, want)
		}
	}
	if f.Blocks[3][1].At == f.Blocks[3][2].At || len(block) != 6 {
		t.Errorf("%v", block)
	}
}

// Promise 15.2: what stands beside the blocks stays: the name, the parameters, what is answered, the place.
func TestHead(t *testing.T) {
	f := program(t, "func main() n { b0: ret } func f(p i p) p { b0: %3 = slot %0 0 br b1 b1: %4 = phi.d b0 %3 ret %2 }").Funcs[1]
	g, _ := Of(f)
	if g.Name != "f" || !slices.Equal(g.Params, []int{api.TPtr, api.TInt, api.TPtr}) || g.Ret != api.TPtr || g.At != f.At || f.At == 0 {
		t.Errorf("%+v", g)
	}
}
