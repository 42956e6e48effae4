package well

import (
	"slices"
	"strings"
	"testing"

	"turntable/api"
	"turntable/made"
	"turntable/show"
)

// Promise 11.7: a call of a function that there is not, of another answer, with more and fewer values, also of itself.
func TestCalls(t *testing.T) {
	others := " func f(i p) p { b0: ret %1 } func g()" + rest
	mustTell(t,
		told{"func main(i) n { b0: %1 = nil %2 = call.p f %0 %1 call.n g call.n main %0 ret }" + others, api.OK},
		told{"func main(i) n { b0: !call.n h ret }" + others, api.ErrFunc},
		told{"func main(i) n { b0: !call.n ff ret }" + others, api.ErrFunc},
		told{"func main(i) n { b0: !%1 = call.i h %0 ret }", api.ErrFunc},
		// Of another answer.
		told{"func main(i) n { b0: %1 = nil !call.n f %0 %1 ret }" + others, api.ErrType},
		told{"func main(i) n { b0: %1 = nil !%2 = call.i f %0 %1 ret }" + others, api.ErrType},
		told{"func main(i) n { b0: !%2 = call.i g ret }" + others, api.ErrType},
		told{"func main(i) n { b0: !%2 = call.p g ret }" + others, api.ErrType},
		told{"func main(i) n { b0: !%2 = call.i main %0 ret }", api.ErrType},
		// More and fewer.
		told{"func main(i) n { b0: !%1 = call.p f %0 ret }" + others, api.ErrArgs},
		told{"func main(i) n { b0: !%1 = call.p f ret }" + others, api.ErrArgs},
		told{"func main(i) n { b0: %1 = nil !%2 = call.p f %0 %1 %1 ret }" + others, api.ErrArgs},
		told{"func main(i) n { b0: !call.n g %0 ret }" + others, api.ErrArgs},
		told{"func main(i) n { b0: !call.n main ret }", api.ErrArgs},
		told{"func main(i) n { b0: !call.n main %0 %0 ret }", api.ErrArgs},
		// Each of another type.
		told{"func main(i) n { b0: %1 = nil !%2 = call.p f %1 %1 ret }" + others, api.ErrType},
		told{"func main(i) n { b0: %1 = nil !%2 = call.p f %0 %0 ret }" + others, api.ErrType},
		told{"func main(i) n { b0: %1 = nil %2 = slot %1 0 !%3 = call.p f %0 %2 ret }" + others, api.ErrType},
		// Within an instruction what is told first.
		told{"func main(i) n { b0: !%2 = call.i h %9 %8 ret }", api.ErrFunc},
		told{"func main(i) n { b0: !%2 = call.i f %9 ret }" + others, api.ErrType},
		told{"func main(i) n { b0: !%2 = call.p f %9 ret }" + others, api.ErrArgs},
		told{"func main(i) n { b0: !%2 = call.p f %0 %9 ret }" + others, api.ErrValue},
	)
}

// Promise 11.7: ret has a value just if the function answers something, and one of that type.
func TestRets(t *testing.T) {
	mustTell(t,
		told{"func main(i) n { b0: !ret %0 }", api.ErrArgs},
		told{"func main(i) i { b0: !ret }", api.ErrArgs},
		told{"func main(i) p { b0: !ret }", api.ErrArgs},
		told{"func main(i) p { b0: !ret %0 }", api.ErrType},
		told{"func main(i) i { b0: %1 = nil !ret %1 }", api.ErrType},
		told{"func main(i) p { b0: %1 = nil %2 = slot %1 0 !ret %2 }", api.ErrType},
		told{"func main(i) p { b0: %1 = nil ret %1 }", api.OK},
		told{"func main(i) i { b0: ret %0 }", api.OK},
		told{"func main(i) i { b0: fail 1 }", api.OK},
		told{"func main(i) i { b0: !ret %9 }", api.ErrValue},
		told{"func main(i) n { b0: !ret %9 }", api.ErrArgs},
		told{"func main(i) i { b0: if %0 b1 b2 b1: ret %0 b2: !ret }", api.ErrArgs},
		told{"func main(i) i { b0: ret %0 } func f(i) n { b0: !ret %0 }", api.ErrArgs},
	)
}

// Promise 11.7: each value that is taken is of the type that is taken, of each operation in each place. %0 is a number, %1 a pointer, %2 a pointer into an object, and %99 is none.
func TestEachType(t *testing.T) {
	kinds := "ipd"
	for _, row := range []string{
		"%9 = add i i", "%9 = sub i i", "%9 = mul i i", "%9 = div i i", "%9 = lt i i", "%9 = eq i i", "%9 = same p p", "%9 = load.i p 0", "%9 = load.p p 0", "store.i p 0 i", "store.p p 0 p",
		"%9 = slot p 0", "%9 = get.i d", "%9 = get.p d", "put.i d i", "put.p d p", "out i", "mark p", "%9 = reloc.p p 0", "%9 = reloc.d d 0", "%9 = call.i f i p", "ret i", "if i b1 b2",
		"%9 = phi.i b0 i", "%9 = phi.p b0 p", "%9 = phi.d b0 d",
	} {
		words := strings.Fields(row)
		for k, word := range words {
			want := strings.Index(kinds, word)
			if want < 0 {
				continue
			}
			for kind := range 4 {
				code := api.ErrType
				switch kind {
				case want:
					code = api.OK
				case 3:
					code = api.ErrValue
				}
				mustTakeOne(t, words, k, kind, code)
			}
		}
	}
}

// mustTakeOne holds what Made tells of an instruction whose word in a place is a value of a type (3: there is none), and the others are what they should be.
func mustTakeOne(t *testing.T, words []string, place, kind int, code api.Code) {
	t.Helper()
	values := []string{"%0", "%1", "%2", "%99"}
	text := ""
	for k, word := range words {
		switch is := strings.Index("ipd", word); {
		case k == place:
			word = values[kind]
		case is >= 0:
			word = values[is]
		}
		text += word + " "
	}
	first, last := "br b1 b1: ", "ret %0"
	switch words[0] {
	case "ret":
		last = ""
	case "if":
		// The ways in go where the fork goes, too.
		first, last = "", "b1: ret %0 b2: ret %0"
	}
	program := "func main(i) i { b0: %1 = nil %2 = slot %1 0 " + first + "!" + text + last + " } func f(i p) i { b0: ret %0 }"
	p, at := read(t, program)
	if code == api.OK {
		at = 0
	}
	if e := Made(p); e != (api.Err{Code: code, At: at}) {
		t.Fatalf("Made is %v, want %d at %d, of %s", e, code, at, program)
	}
}

// Promise 11.7: a value that no instruction makes, and that is no parameter.
func TestNoValue(t *testing.T) {
	mustTell(t,
		told{"func main() n { b0: !out %0 ret }", api.ErrValue},
		told{"func main(i) n { b0: !out %1 ret }", api.ErrValue},
		told{"func main(i i i i i i i i) n { b0: !out %8 ret }", api.ErrValue},
		told{"func main(i i i i i i i i) n { b0: out %7 ret }", api.OK},
		told{"func main() n { b0: !out %1048576 ret }", api.ErrValue},
		told{"func main() n { b0: %1048576 = const 0 out %1048576 ret }", api.OK},
		// A call that answers nothing makes none; other functions' values are none here.
		told{"func main() n { b0: %5 = const 1 ret } func f() n { b0: !out %5 ret }", api.ErrValue},
		told{"func main() n { b0: ret } func f(i) n { b0: ret } func g() n { b0: !out %0 ret }", api.ErrValue},
		told{phis("!%1 = phi.i b1 %0 b2 %9"), api.ErrValue},
	)
}

// Promise 11.7: a value that is taken ahead of where it is made.
func TestBefore(t *testing.T) {
	mustTell(t,
		// In the same block, and by the instruction itself.
		told{"func main() n { b0: !out %1 %1 = const 2 ret }", api.ErrBefore},
		told{"func main() n { b0: %1 = const 2 out %1 ret }", api.OK},
		told{"func main() n { b0: !%1 = add %1 %1 ret }", api.ErrBefore},
		told{"func main(i) n { b0: !%1 = add %0 %1 ret }", api.ErrBefore},
		told{"func main() n { b0: !%1 = load.p %1 0 ret }", api.ErrBefore},
		// In a block that does not stand ahead: beside, behind, and one of two ways.
		told{"func main(i) n { b0: if %0 b1 b2 b1: %1 = const 1 ret b2: !out %1 ret }", api.ErrBefore},
		told{"func main(i) n { b0: if %0 b1 b2 b1: !out %1 ret b2: %1 = const 1 ret }", api.ErrBefore},
		told{"func main(i) n { b0: !out %1 br b1 b1: %1 = const 1 ret }", api.ErrBefore},
		told{"func main(i) n { b0: if %0 b1 b2 b1: %1 = const 1 br b2 b2: !out %1 ret }", api.ErrBefore},
		told{"func main(i) n { b0: if %0 b1 b2 b1: %1 = const 1 br b3 b2: br b3 b3: !out %1 ret }", api.ErrBefore},
		// In one that stands ahead, wherever it stands.
		told{"func main(i) n { b0: br b2 b1: out %1 ret b2: %1 = const 1 br b1 }", api.OK},
		told{"func main(i) n { b0: br b2 b1: %1 = const 1 ret b2: !out %1 br b1 }", api.ErrBefore},
		told{"func main(i) n { b0: %1 = const 1 if %0 b1 b2 b1: br b3 b2: br b3 b3: out %1 ret }", api.OK},
		// Round a loop: behind the taker in its block is not ahead, though it is made the time before.
		told{"func main(i) n { b0: br b1 b1: !out %1 %1 = const 1 if %0 b1 b2 b2: ret }", api.ErrBefore},
		told{"func main(i) n { b0: br b1 b1: !out %1 br b2 b2: %1 = const 1 if %0 b1 b3 b3: ret }", api.ErrBefore},
		told{"func main(i) n { b0: br b1 b1: br b2 b2: %1 = const 1 if %0 b1 b3 b3: out %1 ret }", api.OK},
		// The last instruction takes, too.
		told{"func main(i) n { b0: br b1 b1: !if %1 b2 b3 b2: %1 = const 1 ret b3: ret }", api.ErrBefore},
		told{"func main(i) i { b0: if %0 b1 b2 b1: %1 = const 1 ret %1 b2: !ret %1 }", api.ErrBefore},
	)
}

// Promise 11.7: a phi takes a value at the end of the block from which it comes.
func TestBeforePhi(t *testing.T) {
	mustTell(t,
		// From the block where it is made, and from one behind it.
		told{"func main(i) n { b0: if %0 b1 b2 b1: %1 = const 1 br b3 b2: br b3 b3: %2 = phi.i b1 %1 b2 %0 ret }", api.OK},
		told{"func main(i) n { b0: if %0 b1 b2 b1: %1 = const 1 br b4 b2: br b3 b3: %2 = phi.i b4 %1 b2 %0 ret b4: br b3 }", api.OK},
		// Not from the other one.
		told{"func main(i) n { b0: if %0 b1 b2 b1: %1 = const 1 br b3 b2: br b3 b3: !%2 = phi.i b1 %0 b2 %1 ret }", api.ErrBefore},
		told{"func main(i) n { b0: if %0 b1 b2 b1: %1 = const 1 br b3 b2: br b3 b3: !%2 = phi.i b2 %1 b1 %0 ret }", api.ErrBefore},
		// What a phi takes need not be made ahead of the phi's own block, nor is that enough.
		told{"func main(i) n { b0: br b1 b1: %1 = phi.i b0 %0 b1 %2 %2 = add %1 %1 if %2 b1 b2 b2: ret }", api.OK},
		told{"func main(i) n { b0: br b1 b1: !%1 = phi.i b0 %2 b1 %0 %2 = add %0 %0 if %2 b1 b2 b2: ret }", api.ErrBefore},
		// What it makes itself, and what another one makes, from a block that goes round.
		told{"func main(i) i { b0: br b1 b1: %1 = phi.i b0 %0 b1 %1 if %1 b1 b2 b2: ret %1 }", api.OK},
		told{"func main(i) i { b0: br b1 b1: %1 = phi.i b0 %0 b1 %2 %2 = phi.i b0 %0 b1 %1 if %1 b1 b2 b2: ret %1 }", api.OK},
		told{"func main(i) i { b0: br b1 b1: !%1 = phi.i b0 %1 b1 %0 if %1 b1 b2 b2: ret %1 }", api.ErrBefore},
		told{"func main(i) i { b0: br b1 b1: %1 = phi.i b0 %0 b2 %1 br b2 b2: if %1 b1 b3 b3: ret %1 }", api.OK},
		told{"func main(i) i { b0: br b1 b1: %1 = phi.i b0 %0 b2 %5 br b2 b2: %5 = const 1 if %1 b1 b3 b3: ret %1 }", api.OK},
		told{"func main(i) i { b0: br b1 b1: !%1 = phi.i b0 %5 b2 %0 br b2 b2: %5 = const 1 if %1 b1 b3 b3: ret %1 }", api.ErrBefore},
		told{"func main(i) i { b0: br b1 b1: !%1 = phi.i b0 %0 b2 %5 br b2 b2: if %1 b1 b3 b3: %5 = const 1 ret %1 }", api.ErrBefore},
		// A phi's value is made in its own block, not in those from which it comes.
		told{"func main(i) n { b0: if %0 b1 b2 b1: br b3 b2: !out %2 br b3 b3: %2 = phi.i b1 %0 b2 %0 ret }", api.ErrBefore},
		// Parameters are made ahead of all.
		told{phis("%1 = phi.i b1 %0 b2 %0 out %0"), api.OK},
	)
}

// Promise 11.7: Arg by Arg, and of each one what is told first.
func TestTakesFirst(t *testing.T) {
	mustTell(t,
		// Of one value.
		told{"func main() n { b0: !out %1 %1 = nil ret }", api.ErrType},
		told{phis("!%1 = phi.i b1 %2 b2 %0 %2 = nil"), api.ErrType},
		// Of two values.
		told{"func main() n { b0: !%2 = add %1 %9 %1 = const 1 ret }", api.ErrBefore},
		told{"func main() n { b0: !%2 = add %9 %1 %1 = const 1 ret }", api.ErrValue},
		told{"func main() n { b0: %3 = nil !%2 = add %3 %9 ret }", api.ErrType},
		told{"func main() n { b0: %3 = nil !%2 = add %9 %3 ret }", api.ErrValue},
		told{"func main() n { b0: %3 = nil !%2 = add %1 %3 %1 = const 1 ret }", api.ErrBefore},
		told{"func main(i) n { b0: %3 = nil !%2 = add %0 %3 %1 = const 1 ret }", api.ErrType},
		// Of two instructions.
		told{"func main() n { b0: !out %1 %1 = const 1 call.n f out %9 ret }", api.ErrBefore},
		told{"func main() n { b0: !call.n f out %9 ret }", api.ErrFunc},
		told{"func main(i) n { b0: !out %9 ret %0 }", api.ErrValue},
		told{"func main(i) n { b0: br b2 b1: !out %9 ret b2: out %8 br b1 }", api.ErrValue},
		// The first go is gone to its end ahead of the second one.
		told{"func main(i) n { b0: out %9 !%0 = const 1 ret }", api.ErrTwice},
		told{"func main(i) n { b0: call.n f br b1 b1: !%1 = phi.i b1 %0 ret }", api.ErrPhi},
		told{"func main(i) n { b0: %1 = add %1 %9 br b1 b1: out %8 !%1 = const 1 ret }", api.ErrTwice},
	)
	p, word := read(t, "func main(i) n { b0: out %9 !poll 1 ret }")
	must(t, p, api.Err{Code: api.ErrWord, At: word}, api.Err{Code: api.ErrValue, At: strings.Index("func main(i) n { b0: out", "out")})
}

// Promise 11.3: function by function: all that is wrong with one is told ahead of what is wrong with the next one.
func TestFunctionByFunction(t *testing.T) {
	bad := []told{
		{"!func f(i) n { }", api.ErrEnd},
		{"!func f(i) n { b0: br b1 }", api.ErrLabel},
		{"!func f(i) n { b0: ret b1: ret }", api.ErrReach},
		{"func f(i) n { b0: !%0 = nil ret }", api.ErrTwice},
		{"func f(i) n { b0: !%1 = phi.i b0 %0 ret }", api.ErrPhi},
		{"func f(i) n { b0: !call.n nobody ret }", api.ErrFunc},
		{"func f(i) n { b0: !ret %0 }", api.ErrArgs},
		{"func f(i) n { b0: !out %9 ret }", api.ErrValue},
		{"func f(i) n { b0: !%1 = load.i %0 0 ret }", api.ErrType},
		{"func f(i) n { b0: !out %1 %1 = const 1 ret }", api.ErrBefore},
	}
	for _, first := range bad {
		for _, second := range bad {
			next := strings.Replace(strings.Replace(second.text, "!", "", 1), "func f", "func g", 1)
			mustTell(t,
				told{"func main()" + rest + first.text + " " + next, first.code},
				told{first.text + " " + next + " func main()" + rest, first.code},
				told{strings.Replace(first.text, "func f", "func main", 1) + " " + next, first.code},
			)
		}
	}
}

// Promise 11.8: what may be run has each value made ahead of where it is taken, on whichever way it is gone through.
func TestMadeOnEveryWay(t *testing.T) {
	eachProgram(2000, func(m *made.Maker, p api.Prog, _ bool) {
		if m.Intn(2) == 0 {
			spoil(m, p)
		}
		if Made(p) != (api.Err{}) {
			return
		}
		for _, f := range p.Funcs {
			for range 5 {
				walk(t, m, f)
			}
		}
	})
}

// walk goes through a function by chance, and holds that what is taken was made.
func walk(t *testing.T, m *made.Maker, f api.Func) {
	t.Helper()
	met := map[int]bool{}
	for value := range f.Params {
		met[value] = true
	}
	from, block := -1, 0
	for range 60 {
		come(t, met, f, from, block)
		for _, x := range f.Blocks[block] {
			for _, value := range x.Args {
				if x.Op != api.OPhi && !met[value] {
					t.Fatalf("%%%d is not made ahead of %s:\n%s", value, show.Instr(x), show.Func(f))
				}
			}
			if x.Id >= 0 {
				met[x.Id] = true
			}
		}
		to := made.To(f, block)
		if len(to) == 0 {
			return
		}
		from, block = block, m.One(to)
	}
}

// come holds that what a block's phis take was made ahead of all of them.
func come(t *testing.T, met map[int]bool, f api.Func, from, block int) {
	t.Helper()
	for _, x := range f.Blocks[block] {
		if x.Op != api.OPhi {
			return
		}
		if value := x.Args[slices.Index(x.To, from)]; !met[value] {
			t.Fatalf("%%%d is not made ahead of b%d, ahead of %s:\n%s", value, block, show.Instr(x), show.Func(f))
		}
	}
}
