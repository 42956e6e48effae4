package effect

import (
	"strings"
	"testing"

	"turntable/api"
	"turntable/made"
)

// calling is a call of a name.
func calling(name string) api.Instr { return api.Instr{Op: api.OCall, Id: -1, Name: name} }

// Promise 16.4: Instr of each operation but call is what Own is, in any program, whatever the instruction's name is.
func TestInstrOfEach(t *testing.T) {
	p := program(t, "func main() n { b0: call.n f ret } func f() n { b0: %0 = new i %1 = load.i %0 0 store.i %0 0 %1 out %1 call.n f ret } func p() n { b0: ret }")
	for _, table := range []*Table{New(p), New(api.Prog{}), {}} {
		for op := -2; op < 40; op++ {
			for _, name := range []string{"", "f", "p", "main", "x"} {
				x := api.Instr{Op: op, Name: name}
				if got := words(table.Instr(x)); op != api.OCall && got != owned(op) {
					t.Errorf("operation %d of the name %q does %s, want %s", op, name, got, owned(op))
				}
			}
		}
	}
}

// Promise 16.4: a call does what the function of its name does, and may trap beside; whatever it passes, makes, and is numbered.
func TestInstrOfCalls(t *testing.T) {
	p := program(t, "func a() n { b0: ret } func b() n { b0: call.n a ret } func c() p { b0: %0 = new i ret %0 } func main() n { b0: ret } func d(i) n { b0: out %0 ret } func e(p) i { b0: %1 = load.i %0 0 ret %1 } func f(p) n { b0: store.p %0 0 %0 ret } func g() n { b0: br b1 b1: br b1 } func h() n { b0: call.n h ret }")
	want := map[string]string{"a": "t", "b": "t", "c": "mt", "main": "t", "d": "tg", "e": "rt", "f": "wt", "g": "to", "h": "to"}
	m, table := made.New(1), New(p)
	for name, do := range want {
		if got := words(table.Instr(calling(name))); got != do {
			t.Errorf("a call of %s does %s, want %s", name, got, do)
		}
		for range 50 {
			x := api.Instr{Op: api.OCall, Id: m.Intn(9) - 1, N: int64(m.Intn(9)), Type: m.Intn(4), Args: m.Labels(m.Intn(4), 9), To: m.Labels(m.Intn(3), 9), Name: name, At: m.Intn(99)}
			if got := words(table.Instr(x)); got != do {
				t.Errorf("%v does %s, want %s", x, got, do)
			}
		}
	}
}

// Promise 16.4: of a function that there is not all is told: also where the name is near that of others, or there is no function at all.
func TestInstrOfNone(t *testing.T) {
	p := program(t, "func main() n { b0: ret } func f() n { b0: ret }")
	for _, table := range []*Table{New(p), New(api.Prog{}), {}} {
		for _, name := range []string{"", "g", "ff", "F", "mai", "main_", " f", "f ", "f\x00", "i", strings.Repeat("f", 1000)} {
			if got := words(table.Instr(calling(name))); got != letters {
				t.Errorf("a call of %q does %s, want all", name, got)
			}
		}
	}
	for _, table := range []*Table{New(api.Prog{}), {}} {
		if got := words(table.Instr(calling("main"))); got != letters {
			t.Errorf("a call of main, which there is not, does %s, want all", got)
		}
	}
}

// Promise 16.4: a table is of its own program alone: another one's functions of the same names are not told.
func TestTablesApart(t *testing.T) {
	one := New(program(t, "func main() n { b0: ret } func f() n { b0: %0 = new i ret }"))
	two := New(program(t, "func main() n { b0: ret } func f() n { b0: br b1 b1: br b1 }"))
	three := New(program(t, "func main() n { b0: ret }"))
	for range 2 {
		for k, want := range []string{"mt", "to", "rwmtgo"} {
			if got := words([]*Table{one, two, three}[k].Instr(calling("f"))); got != want {
				t.Errorf("%s, want %s", got, want)
			}
		}
	}
}

// Promise 16.4: what a call does is not quiet, since it may trap; nor is what asks objects. What makes an object, and what does nothing beside, is.
func TestQuietInstr(t *testing.T) {
	p := program(t, "func main() n { b0: ret }")
	table := New(p)
	for op := api.OConst; op <= api.OFail; op++ {
		if got, want := Quiet(table.Instr(api.Instr{Op: op, Name: "main"})), owned(op) == "." || owned(op) == "m"; got != want {
			t.Errorf("operation %d is quiet: %v, want %v", op, got, want)
		}
	}
	if !Quiet(Of(p)[0]) {
		t.Error("a function that does nothing is not quiet")
	}
}
