package effect

import (
	"slices"
	"strconv"
	"strings"
	"testing"

	"turntable/api"
	"turntable/made"
)

// mustCallThese holds the names of the calls of a text's function main.
func mustCallThese(t *testing.T, text string, want ...string) {
	t.Helper()
	p := program(t, text+" func a() n { b0: ret } func b() i { b0: %0 = const 1 ret %0 } func c(i) p { b0: %1 = nil ret %1 } func d(p) n { b0: ret }")
	if got := Calls(p.Funcs[0]); !slices.Equal(got, want) {
		t.Errorf("%s: %q, want %q", text, got, want)
	}
}

// Promise 16.2: functions without calls.
func TestNoCalls(t *testing.T) {
	mustCallThese(t, "func main() n { b0: ret }")
	mustCallThese(t, "func main(i) i { b0: %1 = new ip %2 = load.i %1 0 %3 = add %2 %0 out %3 poll 3 mark %1 br b1 b1: %4 = phi.i b0 %3 ret %4 }")
	if got := Calls(api.Func{}); len(got) > 0 {
		t.Errorf("%q", got)
	}
}

// Promise 16.2: each name once, also where it is called more than once: ahead of others, behind others, and around them.
func TestCallsTwice(t *testing.T) {
	mustCallThese(t, "func main() n { b0: call.n a ret }", "a")
	mustCallThese(t, "func main() n { b0: call.n a call.n a ret }", "a")
	mustCallThese(t, "func main() n { b0: %0 = call.i b call.n a %1 = call.i b call.n a %2 = call.p c %1 call.n d %2 %3 = call.i b ret }", "b", "a", "c", "d")
}

// Promise 16.2: the names as they stand, block by block, which is neither the order of the names, nor that of the functions, nor that in which the blocks follow each other.
func TestCallsAsTheyStand(t *testing.T) {
	mustCallThese(t, "func main(i) n { b0: %1 = call.p c %0 br b2 b1: call.n d %1 call.n a ret b2: %2 = call.i b call.n d %1 if %2 b1 b3 b3: call.n main %2 ret }", "c", "d", "a", "b", "main")
	mustCallThese(t, "func main(i) n { b0: %1 = nil call.n d %1 br b1 b1: %2 = call.p c %0 if %0 b1 b2 b2: %3 = call.i b call.n a call.n d %2 ret }", "d", "c", "b", "a")
}

// Promise 16.2: names that begin alike, or hold a part of others, are names of their own.
func TestCallsAlike(t *testing.T) {
	p := program(t, "func main() n { b0: call.n aa call.n a call.n a0 call.n main call.n a_ call.n aa ret } func a() n { b0: ret } func aa() n { b0: ret } func a0() n { b0: ret } func a_() n { b0: ret }")
	if got := Calls(p.Funcs[0]); !slices.Equal(got, []string{"aa", "a", "a0", "main", "a_"}) {
		t.Errorf("%q", got)
	}
}

// Promise 16.2: what is no call calls nothing, whatever its name is: that of a new is letters of a shape.
func TestCallsNotByName(t *testing.T) {
	p := program(t, "func main() n { b0: %0 = new i %1 = new p call.n p ret } func i() n { b0: ret } func p() n { b0: ret }")
	if got := Calls(p.Funcs[0]); !slices.Equal(got, []string{"p"}) {
		t.Errorf("%q", got)
	}
	for op := range 40 {
		got := Calls(api.Func{Blocks: [][]api.Instr{nil, {{Op: op, Name: "f"}}}})
		if want := strings.Repeat("f", max(0, 1-max(op-api.OCall, api.OCall-op))); strings.Join(got, " ") != want {
			t.Errorf("operation %d calls %q", op, got)
		}
	}
}

// Promise 16.2: a function that calls all others, each one many times.
func TestCallsMost(t *testing.T) {
	m := made.New(1)
	var want []string
	var block []api.Instr
	p := api.Prog{}
	for k := range api.MaxFuncs {
		name := "f" + strconv.Itoa(k)
		if k == 17 {
			name = "main"
		}
		want = append(want, name)
		p.Funcs = append(p.Funcs, api.Func{Name: name, Blocks: [][]api.Instr{{{Op: api.ORet, Id: -1}}}})
	}
	slices.Reverse(want)
	for _, name := range want {
		block = append(block, api.Instr{Op: api.OCall, Id: -1, Name: name})
	}
	for len(block) < api.MaxInstrs-api.MaxFuncs {
		block = append(block, api.Instr{Op: api.OCall, Id: -1, Name: want[m.Intn(len(want))]})
	}
	p.Funcs[17].Blocks[0] = append(block, p.Funcs[17].Blocks[0]...)
	mustBeWell(t, p)
	if got := Calls(p.Funcs[17]); !slices.Equal(got, want) {
		t.Errorf("%q, want %q", got, want)
	}
}

// Promise 16.2: functions by chance: the names of the calls that are held against those that stand ahead of them.
func TestCallsByChance(t *testing.T) {
	calls, again := 0, 0
	eachProgram(t, 6000, func(_ *made.Maker, p api.Prog) {
		for _, f := range p.Funcs {
			var want []string
			for _, x := range slices.Concat(f.Blocks...) {
				if x.Op != api.OCall {
					continue
				}
				calls++
				if slices.Index(want, x.Name) < 0 {
					want = append(want, x.Name)
				} else {
					again++
				}
			}
			if got := Calls(f); !slices.Equal(got, want) {
				t.Fatalf("%q, want %q", got, want)
			}
		}
	})
	if calls < 4000 || again < 300 {
		t.Errorf("only %d calls, %d of the same", calls, again)
	}
}
