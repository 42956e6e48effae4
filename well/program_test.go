package well

import (
	"strings"
	"testing"

	"turntable/api"
	"turntable/made"
	"turntable/show"
)

// A function that may be run, under any name.
const rest = " n { b0: ret } "

// Promise 11.3: programs that may be run.
func TestGood(t *testing.T) {
	mustTell(t,
		told{"func main()" + rest, api.OK},
		told{"func main(i) n { b0: out %0 ret }", api.OK},
		told{"func main(i i i i i i i i) i { b0: ret %7 }", api.OK},
		told{"func main() p { b0: %0 = nil ret %0 }", api.OK},
		told{"func f()" + rest + "func main()" + rest, api.OK},
		told{"func main(i) i { b0: br b1 b1: %1 = phi.i b0 %0 b1 %1 if %1 b1 b2 b2: ret %1 }", api.OK},
		told{"func main() n { b0: fail 0 }", api.OK},
	)
	p, at := read(t, strings.Replace(all, "%41 = call.p", "!%41 = call.p", 1))
	must(t, p, api.Err{Code: api.ErrWord, At: at}, api.Err{})
}

// Promise 11.3: what may not be written: show.Whole's code, at where that function stands.
func TestNotWritten(t *testing.T) {
	good := func() api.Prog {
		p, _ := read(t, "func main()"+rest+"func f() i { b0: %0 = const 1 ret %0 } func g() n { b0: br b0 }")
		return p
	}
	for code, spoil := range map[api.Code]func(f *api.Func){
		api.ErrLimit: func(f *api.Func) { f.Params = make([]int, api.MaxParams+1) },
		api.ErrName:  func(f *api.Func) { f.Name = "F" },
		api.ErrType:  func(f *api.Func) { f.Ret = api.TDer },
		api.ErrWord:  func(f *api.Func) { f.Blocks[0][0].Op = api.OMove },
		api.ErrValue: func(f *api.Func) { f.Blocks[0][0].Id = -2 },
		api.ErrArgs:  func(f *api.Func) { f.Blocks[0][0].To = []int{0, 0} },
		api.ErrRange: func(f *api.Func) { f.Blocks[0] = []api.Instr{{Op: api.OFail, Id: -1, N: 256}} },
		api.ErrLabel: func(f *api.Func) { f.Blocks[0] = []api.Instr{{Op: api.OBr, Id: -1, To: []int{256}}} },
		api.ErrShape: func(f *api.Func) { f.Blocks[0][0] = api.Instr{Op: api.ONew, Id: 0, Name: "x"} },
	} {
		for k := range 3 {
			p := good()
			spoil(&p.Funcs[k])
			if e := show.Whole(p); e != (api.Err{Code: code, At: k}) {
				t.Fatalf("Whole is %v, want %d at %d", e, code, k)
			}
			for _, at := range []int{p.Funcs[k].At, 0, 1000, -1} {
				p.Funcs[k].At = at
				must(t, p, api.Err{Code: code, At: at}, api.Err{Code: code, At: at})
			}
		}
	}
}

// Promise 11.3: what may not be written is told ahead of all else, in whichever function it is.
func TestNotWrittenFirst(t *testing.T) {
	for _, text := range []string{
		"func f() n { }",
		"func main(p)" + rest,
		"func main() n { b0: br b0 }",
		"func main() n { b0: out %1 ret }",
		"func main()" + rest + "func main()" + rest,
		"func main() n { b0: poll 1 ret }",
	} {
		p, _ := read(t, text)
		p.Funcs = append(p.Funcs, api.Func{Name: "g", At: 777, Blocks: [][]api.Instr{{{Op: api.OPoll, Id: -1, N: -1}}}})
		must(t, p, api.Err{Code: api.ErrRange, At: 777}, api.Err{Code: api.ErrRange, At: 777})
	}
}

// Promise 11.4: two functions of one name, at the later one; of three the second one.
func TestNamesTwice(t *testing.T) {
	mustTell(t,
		told{"func main()" + rest + "!func main()" + rest, api.ErrTwice},
		told{"func main()" + rest + "!func main(i) i { b0: ret %0 }", api.ErrTwice},
		told{"func f()" + rest + "func main()" + rest + "func g()" + rest + "!func f()" + rest, api.ErrTwice},
		told{"func f()" + rest + "!func f()" + rest + "func f()" + rest + "func main()" + rest, api.ErrTwice},
		told{"func a()" + rest + "func b()" + rest + "!func b()" + rest + "func a()" + rest + "func main()" + rest, api.ErrTwice},
		told{"func f()" + rest + "func ff()" + rest + "func main()" + rest, api.OK},
		// Two of one name are told ahead of what is wrong with main.
		told{"func f()" + rest + "!func f()" + rest, api.ErrTwice},
		told{"func main(p)" + rest + "!func main()" + rest, api.ErrTwice},
		told{"func main(p)" + rest + "func f()" + rest + "!func f()" + rest, api.ErrTwice},
		// And ahead of what is wrong within functions.
		told{"func main() n { b0: out %9 br b0 } func f()" + rest + "!func f()" + rest, api.ErrTwice},
	)
}

// Promise 11.4: there must be a function main, else ErrFunc at 0, wherever the functions stand.
func TestNoMain(t *testing.T) {
	mustTell(t,
		told{"", api.ErrFunc},
		told{"func f()" + rest, api.ErrFunc},
		told{"   func mai()" + rest + "func mainn()" + rest + "func xmain()" + rest, api.ErrFunc},
		told{"  func f() n { b0: br b0 }", api.ErrFunc},
		told{"  func f() n { }", api.ErrFunc},
		told{"func f(p) n { b0: call.n main ret }", api.ErrFunc},
	)
	must(t, api.Prog{Funcs: []api.Func{}}, api.Err{Code: api.ErrFunc}, api.Err{Code: api.ErrFunc})
}

// Promise 11.4: main has no parameter that is a pointer, in whichever place; all others may have.
func TestMainParameters(t *testing.T) {
	mustTell(t,
		told{"!func main(p)" + rest, api.ErrArgs},
		told{"!func main(p i)" + rest, api.ErrArgs},
		told{"!func main(i p)" + rest, api.ErrArgs},
		told{"!func main(i p i)" + rest, api.ErrArgs},
		told{"!func main(p p p p p p p p)" + rest, api.ErrArgs},
		told{"!func main(i i i i i i i p)" + rest, api.ErrArgs},
		told{"func main(i i i i i i i i)" + rest, api.OK},
		told{"func f(p)" + rest + " !func main(p)" + rest, api.ErrArgs},
		told{"func f(p) n { b0: ret } func main(i)" + rest + "func g(i p)" + rest, api.OK},
		told{"func f() n { } !func main(p) n { }", api.ErrArgs},
		told{"func f() n { b0: br b0 } !func main(p)" + rest, api.ErrArgs},
	)
}

// Promise 11.5: graph.Shaped's code, at the function.
func TestNotShaped(t *testing.T) {
	mustTell(t,
		told{"!func main() n { }", api.ErrEnd},
		told{"!func main() n { b0: }", api.ErrEnd},
		told{"!func main() n { b0: %0 = const 1 }", api.ErrEnd},
		told{"!func main() n { b0: ret ret }", api.ErrEnd},
		told{"!func main() n { b0: br b1 b1: ret b2: }", api.ErrEnd},
		told{"!func main() n { b0: br b1 }", api.ErrLabel},
		told{"!func main(i) n { b0: if %0 b1 b2 b1: ret }", api.ErrLabel},
		told{"func main()" + rest + "!func f() n { b0: br b255 }", api.ErrLabel},
		told{"func main()" + rest + "!func f() n { }", api.ErrEnd},
		// At the function that is met first.
		told{"!func main() n { b0: br b1 } func f() n { }", api.ErrLabel},
		told{"!func f() n { } func main() n { b0: br b1 }", api.ErrEnd},
		// Ahead of what is not reached.
		told{"!func main() n { b0: br b0 b1: }", api.ErrEnd},
		told{"!func main() n { b0: ret b1: br b2 }", api.ErrLabel},
		// A phi's blocks are not asked for here.
		told{"func main(i) n { b0: !%1 = phi.i b9 %0 ret }", api.ErrPhi},
	)
}

// Promise 11.5: block 0 is gone to by none, and each block is reached.
func TestReach(t *testing.T) {
	mustTell(t,
		told{"!func main() n { b0: br b0 }", api.ErrReach},
		told{"!func main(i) n { b0: if %0 b0 b1 b1: ret }", api.ErrReach},
		told{"!func main(i) n { b0: if %0 b1 b0 b1: ret }", api.ErrReach},
		told{"!func main(i) n { b0: br b1 b1: if %0 b2 b0 b2: ret }", api.ErrReach},
		told{"!func main() n { b0: br b1 b1: br b0 }", api.ErrReach},
		told{"!func main() n { b0: ret b1: br b0 }", api.ErrReach},
		told{"!func main() n { b0: ret b1: ret }", api.ErrReach},
		told{"!func main() n { b0: br b1 b1: ret b2: ret }", api.ErrReach},
		told{"!func main() n { b0: br b2 b1: ret b2: ret }", api.ErrReach},
		told{"!func main() n { b0: ret b1: br b1 }", api.ErrReach},
		told{"!func main() n { b0: ret b1: br b2 b2: br b1 }", api.ErrReach},
		told{"!func main() n { b0: ret b1: br b2 b2: ret }", api.ErrReach},
		told{"func main()" + rest + "!func f() n { b0: ret b1: ret }", api.ErrReach},
		told{"!func f() n { b0: br b0 } func main() n { b0: ret b1: ret }", api.ErrReach},
		told{"func main(i) n { b0: br b3 b1: ret b2: if %0 b1 b3 b3: br b2 }", api.OK},
		// Ahead of what is wrong with instructions.
		told{"!func main(i) n { b0: %0 = const 1 poll 1 out %9 ret b1: ret }", api.ErrReach},
		told{"!func main(i) n { b0: %1 = phi.i b7 %0 call.n g br b0 }", api.ErrReach},
	)
}

// Promise 11.3: programs by chance that may be run; what is put in later, Source does not take.
func TestGoodByChance(t *testing.T) {
	met := 0
	eachProgram(4000, func(_ *made.Maker, p api.Prog, later bool) {
		if e := Made(p); e != (api.Err{}) {
			t.Fatalf("Made is %v of\n%s", e, show.Text(p))
		}
		first, there := firstLater(p)
		want := api.Err{}
		if there {
			want = api.Err{Code: api.ErrWord, At: first.At}
			met++
		}
		if !later && there {
			t.Fatalf("what is put in later stands in\n%s", show.Text(p))
		}
		must(t, p, want, api.Err{})
	})
	if met < 500 {
		t.Errorf("%d programs had what is put in later: too few", met)
	}
}

// firstLater is the first instruction that is put in later.
func firstLater(p api.Prog) (api.Instr, bool) {
	for _, f := range p.Funcs {
		for _, block := range f.Blocks {
			for _, x := range block {
				text := show.Instr(x)
				for _, word := range []string{"poll ", "reloc.", "mark ", "@"} {
					if strings.Contains(text, word) {
						return x, true
					}
				}
			}
		}
	}
	return api.Instr{}, false
}
