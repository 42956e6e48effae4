package show

import (
	"math"
	"reflect"
	"slices"
	"strconv"
	"strings"
	"testing"

	"turntable/api"
	"turntable/parse"
)

// mustCheck holds what Check answers of an instruction.
func mustCheck(t *testing.T, x api.Instr, want api.Code) {
	t.Helper()
	if got := Check(x); got != want {
		t.Fatalf("Check(%#v) is %d, want %d", x, got, want)
	}
}

// good is an instruction of a row that may be written, with so many pairs or values where any number of them may be.
func good(r row, more int) api.Instr {
	x, _ := newMaker(9).instr(r, more)
	return bareInstr(x)
}

// Promise 7.3: what may be written, of each operation and type, by chance, wherever it stood.
func TestCheckGood(t *testing.T) {
	m := newMaker(2)
	for _, r := range rows {
		for more := range 300 {
			x, _ := m.instr(r, more)
			mustCheck(t, x, api.OK)
			x.At = m.Intn(1000) - 500
			mustCheck(t, x, api.OK)
		}
	}
}

// Promise 7.3: an operation and a type that are none, or not together: ErrWord, whatever else there is.
func TestCheckWord(t *testing.T) {
	may := map[[2]int]bool{}
	for _, r := range rows {
		may[[2]int{r.op, r.kind}] = true
	}
	numbers := []int{math.MinInt, -100, -2, -1, api.OMove, 31, 32, 100, 1 << 32, math.MaxInt}
	for n := range 30 {
		numbers = append(numbers, n)
	}
	for _, op := range numbers {
		for _, kind := range []int{math.MinInt, -2, -1, 0, 1, 2, 3, 4, 5, 1 << 32, math.MaxInt} {
			if may[[2]int{op, kind}] {
				continue
			}
			mustCheck(t, api.Instr{Op: op, Type: kind}, api.ErrWord)
			for _, r := range rows {
				x := good(r, 1)
				x.Op, x.Type = op, kind
				mustCheck(t, x, api.ErrWord)
			}
		}
	}
}

// Promise 7.3: the number of the value that is made: from 0 to MaxValue, or -1 of what makes none.
func TestCheckId(t *testing.T) {
	for _, r := range rows {
		for _, id := range []int{math.MinInt, -1 << 32, -2, -1, 0, 1, 1<<20 - 1, 1 << 20, 1<<20 + 1, 1 << 32, math.MaxInt} {
			x := good(r, 1)
			x.Id = id
			want := api.ErrValue
			if r.makes && id >= 0 && id <= 1<<20 || !r.makes && id == -1 {
				want = api.OK
			}
			mustCheck(t, x, want)
		}
	}
}

// counts is how many values and labels there may be by the operands of a row.
func counts(r row, args, to int) bool {
	switch r.operands {
	case "(lv)":
		return args == to && args >= 1
	case "[@] f (v)":
		return to == 0
	case "[v]":
		return args <= 1 && to == 0
	}
	return args == strings.Count(r.operands, "v") && to == strings.Count(r.operands, "l")
}

// Promise 7.3: too few and too many values and labels of each operation.
func TestCheckArgs(t *testing.T) {
	for _, r := range rows {
		for args := range 7 {
			for to := range 7 {
				x := good(r, 1)
				x.Args, x.To = make([]int, args), make([]int, to)
				want := api.ErrArgs
				if counts(r, args, to) {
					want = api.OK
				}
				mustCheck(t, x, want)
			}
		}
		x := good(r, 1)
		x.Args, x.To = append(x.Args, make([]int, 300)...), append(x.To, make([]int, 300)...)
		want := api.ErrArgs
		if r.op == api.OPhi {
			want = api.OK
		}
		mustCheck(t, x, want)
	}
}

// Promise 7.3: the numbers of each operation, the least and the greatest, and the ones beside them; of those without a number all but 0.
func TestCheckRange(t *testing.T) {
	numbers := []int64{math.MinInt64, math.MinInt64 + 1, -1 << 32, -2, -1, 0, 1, 2, 14, 15, 16, 17, 254, 255, 256, 257, 1<<20 - 1, 1 << 20, 1<<20 + 1, 1 << 32, 1<<32 + 1, math.MaxInt64 - 1, math.MaxInt64}
	for _, r := range rows {
		for _, n := range numbers {
			x := good(r, 1)
			x.N = n
			want := api.ErrRange
			if n >= r.least && n <= r.most {
				want = api.OK
			}
			mustCheck(t, x, want)
		}
	}
}

// Promise 7.3: each value and each label in its place, the least, the greatest, and the ones beside them.
func TestCheckValuesAndLabels(t *testing.T) {
	numbers := []int{math.MinInt, -1 << 32, -2, -1, 0, 1, 254, 255, 256, 257, 1<<20 - 1, 1 << 20, 1<<20 + 1, 1 << 32, math.MaxInt}
	within := func(n, most int, other api.Code) api.Code {
		if n < 0 || n > most {
			return other
		}
		return api.OK
	}
	for _, r := range rows {
		for _, n := range numbers {
			x := good(r, 4)
			for i := range x.Args {
				y := bareInstr(x)
				y.Args[i] = n
				mustCheck(t, y, within(n, 1<<20, api.ErrValue))
			}
			for i := range x.To {
				y := bareInstr(x)
				y.To[i] = n
				mustCheck(t, y, within(n, 255, api.ErrLabel))
			}
		}
	}
}

// Promise 7.3: the shape of new, the name of call, and no name anywhere else.
func TestCheckName(t *testing.T) {
	shapes := map[string]bool{".": true, "i": true, "p": true, "ip": true, "ppppiiiippppiiii": true}
	names := map[string]bool{"i": true, "p": true, "ip": true, "ppppiiiippppiiii": true, "f": true, "main": true, "ix": true, "ppppiiiippppiiiip": true, "a_1": true, "b0": true, "func": true, strings.Repeat("a", 24): true}
	for _, name := range []string{"", ".", "i", "p", "ip", "ppppiiiippppiiii", "f", "main", "ix", "ppppiiiippppiiiip", "a_1", "b0", "func", strings.Repeat("a", 24), strings.Repeat("a", 25), "..", ".i", "i.", "I", "F", "1", "_a", "a.b", "a-b", "%1", "@1", " ", " f", "f ", "f f", "f\n", "i p", "f}", "\x00", "é", "i\xff", "="} {
		for _, r := range rows {
			x := good(r, 1)
			x.Name = name
			want := api.OK
			switch {
			case r.op == api.ONew && !shapes[name]:
				want = api.ErrShape
			case r.op == api.OCall && !names[name]:
				want = api.ErrName
			case r.op != api.ONew && r.op != api.OCall && name != "":
				want = api.ErrName
			}
			mustCheck(t, x, want)
		}
	}
}

// fault makes an instruction wrong in one way, if it can be wrong so; the faults stand in the order of the chapter.
type fault struct {
	code api.Code
	make func(x *api.Instr) bool
}

// last makes the last element of a list another one, if there is one.
func last(l []int, n int) bool {
	if len(l) > 0 {
		l[len(l)-1] = n
	}
	return len(l) > 0
}

// faults is all faults, those that are named in one breath beside each other.
func faults(r row) []fault {
	return []fault{
		{api.ErrWord, func(x *api.Instr) bool { x.Op = 0; return true }},
		{api.ErrWord, func(x *api.Instr) bool { x.Op = api.OMove; return true }},
		{api.ErrWord, func(x *api.Instr) bool { x.Type = 4; return true }},
		{api.ErrValue, func(x *api.Instr) bool { x.Id = -2; return true }},
		{api.ErrValue, func(x *api.Instr) bool { x.Id = 1<<20 + 1; return true }},
		{api.ErrArgs, func(x *api.Instr) bool { x.To = append(x.To, 0); return true }},
		{api.ErrArgs, func(x *api.Instr) bool {
			x.Args = append(x.Args, make([]int, 7)...)
			return r.op != api.OCall
		}},
		{api.ErrArgs, func(x *api.Instr) bool {
			fewer := counts(r, 0, len(x.To))
			x.Args = nil
			return !fewer
		}},
		{api.ErrRange, func(x *api.Instr) bool { x.N = r.most + 1; return r.op != api.OConst }},
		{api.ErrRange, func(x *api.Instr) bool { x.N = r.least - 1; return r.op != api.OConst }},
		{api.ErrValue, func(x *api.Instr) bool { return last(x.Args, -1) }},
		{api.ErrValue, func(x *api.Instr) bool { return last(x.Args, 1<<20+1) }},
		{api.ErrLabel, func(x *api.Instr) bool { return last(x.To, -1) }},
		{api.ErrLabel, func(x *api.Instr) bool { return last(x.To, 256) }},
		{api.ErrShape, func(x *api.Instr) bool { x.Name = "ix"; return r.op == api.ONew }},
		{api.ErrName, func(x *api.Instr) bool { x.Name = "F"; return r.op != api.ONew }},
	}
}

// Promise 7.3: each code, and of any faults together that of the one that is named first.
func TestCheckFirst(t *testing.T) {
	seen := map[api.Code]int{}
	for _, r := range rows {
		all := faults(r)
		for bits := 1; bits < 1<<len(all); bits++ {
			// Two faults at a time, and many by a rule.
			if n := strings.Count(strconv.FormatInt(int64(bits), 2), "1"); n > 2 && bits%97 != 0 {
				continue
			}
			x := good(r, 1)
			want := api.OK
			// The last one first: what an earlier one does is not undone by it.
			for i := len(all) - 1; i >= 0; i-- {
				if bits>>i&1 == 0 {
					continue
				}
				y := bareInstr(x)
				if all[i].make(&y) {
					x, want = y, all[i].code
				}
			}
			mustCheck(t, x, want)
			seen[want]++
		}
	}
	for _, code := range []api.Code{api.ErrWord, api.ErrValue, api.ErrArgs, api.ErrRange, api.ErrLabel, api.ErrShape, api.ErrName} {
		if seen[code] == 0 {
			t.Errorf("the code %d was never met", code)
		}
	}
}

// mustWhole holds what Whole answers of functions.
func mustWhole(t *testing.T, code api.Code, at int, funcs ...api.Func) {
	t.Helper()
	if got := Whole(api.Prog{Funcs: funcs}); got != (api.Err{Code: code, At: at}) {
		t.Fatalf("Whole is %v, want %v", got, api.Err{Code: code, At: at})
	}
}

// rets is so many instructions.
func rets(n int) []api.Instr {
	return slices.Repeat([]api.Instr{{Op: api.ORet, Id: -1}}, n)
}

// behindGood is a function behind so many that may be written.
func behindGood(n int, f ...api.Func) []api.Func {
	return append(slices.Repeat([]api.Func{{Name: "g", Blocks: [][]api.Instr{rets(1)}}}, n), f...)
}

// Promise 7.4: programs that may be written, at the limits.
func TestWholeGood(t *testing.T) {
	mustWhole(t, api.OK, 0)
	mustWhole(t, api.OK, 0, api.Func{Name: "f"})
	mustWhole(t, api.OK, 0, api.Func{Name: "f", At: -5}, api.Func{Name: "f", At: 1 << 40})
	mustWhole(t, api.OK, 0, behindGood(api.MaxFuncs)...)
	for _, ret := range ints(api.TNone, api.TInt, api.TPtr) {
		mustWhole(t, api.OK, 0, api.Func{Name: strings.Repeat("f", api.MaxName), Ret: ret, Params: ints(1, 2, 1, 2, 2, 2, 1, 1)})
	}
	mustWhole(t, api.OK, 0, api.Func{Name: "f", Blocks: make([][]api.Instr, api.MaxBlocks)}, api.Func{Name: "f", Blocks: make([][]api.Instr, api.MaxBlocks)})
	mustWhole(t, api.OK, 0, api.Func{Name: "f", Blocks: [][]api.Instr{rets(api.MaxInstrs), nil}}, api.Func{Name: "f", Blocks: [][]api.Instr{{}}})
	for seed := range 300 {
		m := newMaker(seed)
		p, _ := m.program(m.Intn(6), 5, 6)
		mustWhole(t, api.OK, 0, p.Funcs...)
	}
}

// Promise 7.4: how many functions, parameters and blocks there may be, and one more, at the number of the function.
func TestWholeLimits(t *testing.T) {
	for _, more := range []int{1, 2, 50} {
		mustWhole(t, api.ErrLimit, api.MaxFuncs, behindGood(api.MaxFuncs+more)...)
	}
	for _, n := range []int{0, 1, 2, api.MaxFuncs - 1} {
		for _, params := range []int{api.MaxParams + 1, 100} {
			mustWhole(t, api.ErrLimit, n, behindGood(n, api.Func{Name: "f", Params: slices.Repeat(ints(1), params)})...)
		}
		for _, blocks := range []int{api.MaxBlocks + 1, 1000} {
			mustWhole(t, api.ErrLimit, n, behindGood(n, api.Func{Name: "f", Blocks: make([][]api.Instr, blocks)})...)
		}
	}
}

// Promise 7.4: how many instructions there may be in all, and one more, at the number of its function.
func TestWholeInstrs(t *testing.T) {
	f := func(counts ...int) api.Func {
		f := api.Func{Name: "f"}
		for _, n := range counts {
			f.Blocks = append(f.Blocks, rets(n))
		}
		return f
	}
	most := api.MaxInstrs
	mustWhole(t, api.ErrLimit, 0, f(most+1))
	mustWhole(t, api.ErrLimit, 0, f(most, 1))
	mustWhole(t, api.ErrLimit, 0, f(0, 1, 0, most))
	mustWhole(t, api.ErrLimit, 1, f(most), f(1))
	mustWhole(t, api.ErrLimit, 2, f(most), f(0, 0), f(0, 1))
	mustWhole(t, api.ErrLimit, 2, f(most-2), f(1, 1), f(1))
	mustWhole(t, api.OK, 0, f(most-2), f(1, 1), f(0))
	mustWhole(t, api.OK, 0, f(1), f(most-2), f(0, 1))
	mustWhole(t, api.ErrLimit, 1, f(1), f(most), f(most))
	// One more than may be is refused ahead of what it is; one fewer is looked at.
	bad := api.Instr{Op: 0, Id: -1}
	over, full := f(most, 0), f(most-1, 0)
	over.Blocks[1], full.Blocks[1] = []api.Instr{bad}, []api.Instr{bad, bad}
	mustWhole(t, api.ErrLimit, 0, over)
	mustWhole(t, api.ErrWord, 0, full)
	// What is wrong ahead of it is met first.
	over.Blocks[0][most-1] = bad
	mustWhole(t, api.ErrWord, 0, over)
	mustWhole(t, api.ErrName, 1, f(most), api.Func{Name: "F", Blocks: over.Blocks})
	mustWhole(t, api.ErrLimit, 1, f(most), api.Func{Name: "g", Blocks: over.Blocks})
}

// Promise 7.4: names of functions, and what is none.
func TestWholeName(t *testing.T) {
	for _, name := range []string{"", "F", "1", "_", "a.b", "a b", "f(", strings.Repeat("f", api.MaxName+1), "é", "f\n", "%1"} {
		for _, n := range []int{0, 1, api.MaxFuncs - 1} {
			mustWhole(t, api.ErrName, n, behindGood(n, api.Func{Name: name})...)
		}
	}
	for _, name := range []string{"a", "func", "b0", "a_", "z9", strings.Repeat("f", api.MaxName)} {
		mustWhole(t, api.OK, 0, api.Func{Name: name})
	}
}

// Promise 7.4: types of what is answered and of parameters, each in its place, and what is none.
func TestWholeType(t *testing.T) {
	for _, kind := range []int{math.MinInt, -2, -1, 0, 1, 2, 3, 4, 1 << 32, math.MaxInt} {
		want := api.ErrType
		if kind == api.TNone || kind == api.TInt || kind == api.TPtr {
			want = api.OK
		}
		mustWhole(t, want, 0, api.Func{Name: "f", Ret: kind})
		if kind == api.TNone {
			want = api.ErrType
		}
		for at := range api.MaxParams {
			params := ints(1, 2, 1, 2, 1, 2, 1, 2)
			params[at] = kind
			mustWhole(t, want, 0, api.Func{Name: "f", Params: params})
			mustWhole(t, want, 0, api.Func{Name: "f", Params: params[:at+1]})
			if want != api.OK {
				mustWhole(t, want, 5, behindGood(5, api.Func{Name: "f", Params: params})...)
			}
		}
	}
}

// Promise 7.4: Check's code of each instruction, at the number of its function.
func TestWholeCheck(t *testing.T) {
	for _, r := range rows {
		for _, broken := range faults(r) {
			x := good(r, 1)
			if !broken.make(&x) {
				continue
			}
			for _, blocks := range [][][]api.Instr{{{x}}, {rets(3), nil, append(rets(2), x)}, {append([]api.Instr{x}, rets(1)...), rets(1)}} {
				f := api.Func{Name: "f", Blocks: blocks}
				mustWhole(t, broken.code, 0, f)
				mustWhole(t, broken.code, 3, behindGood(3, append(behindGood(0, f), behindGood(2)...)...)...)
			}
		}
	}
}

// Promise 7.4: of the things that are wrong the one that is met first: function by function, of a function in the order of the chapter, instruction by instruction.
func TestWholeFirst(t *testing.T) {
	steps := []struct {
		code api.Code
		make func(f *api.Func)
	}{
		{api.ErrLimit, func(f *api.Func) { f.Params = append(f.Params, ints(1, 1, 1, 1, 1, 1, 1, 1, 1)...) }},
		{api.ErrLimit, func(f *api.Func) { f.Blocks = append(f.Blocks, make([][]api.Instr, api.MaxBlocks+1)...) }},
		{api.ErrName, func(f *api.Func) { f.Name = "" }},
		{api.ErrType, func(f *api.Func) { f.Ret = api.TDer }},
		{api.ErrType, func(f *api.Func) { f.Params = append(f.Params, api.TNone) }},
		{api.ErrRange, func(f *api.Func) { f.Blocks = append([][]api.Instr{{{Op: api.OPoll, Id: -1, N: -1}}}, f.Blocks...) }},
		{api.ErrLabel, func(f *api.Func) {
			f.Blocks = append(f.Blocks, append(rets(1), api.Instr{Op: api.OBr, Id: -1, To: ints(256)}))
		}},
		{api.ErrWord, func(f *api.Func) { f.Blocks = append(f.Blocks, []api.Instr{{}}) }},
		{api.ErrLimit, func(f *api.Func) { f.Blocks = append(f.Blocks, rets(api.MaxInstrs+1)) }},
	}
	for bits := range 1 << len(steps) {
		f := api.Func{Name: "f"}
		want := api.OK
		for i, s := range steps {
			if bits>>i&1 == 1 {
				s.make(&f)
				if want == api.OK {
					want = s.code
				}
			}
		}
		mustWhole(t, want, 0, f)
		if want == api.OK {
			continue
		}
		mustWhole(t, want, 2, behindGood(2, f)...)
		for _, s := range steps {
			next := api.Func{Name: "g"}
			s.make(&next)
			mustWhole(t, want, 1, behindGood(1, f, next)...)
		}
		// A function too many is one whatever it is; one ahead of it is met first.
		mustWhole(t, api.ErrLimit, api.MaxFuncs, behindGood(api.MaxFuncs, f)...)
		mustWhole(t, want, api.MaxFuncs-1, behindGood(api.MaxFuncs-1, f, f, f)...)
	}
}

// Promises 7.3 to 7.5: a program may be written just if it is read again as what it was.
func TestJustWhatIsReadAgain(t *testing.T) {
	may, not := 0, 0
	for seed := range 20000 {
		m := newMaker(seed)
		p, _ := m.program(1+m.Intn(3), 3, 3)
		p = bareProg(p)
		for range m.Intn(3) {
			m.spoil(&p.Funcs[m.Intn(len(p.Funcs))])
		}
		got, e := parse.Text(Text(p))
		same := e == (api.Err{}) && reflect.DeepEqual(bareProg(got), bareProg(p))
		if e := Whole(p); (e == api.Err{}) != same {
			t.Fatalf("Whole is %v, and %q is read again as what it was: %v; %+v", e, Text(p), same, p)
		}
		if same {
			may++
		} else {
			not++
		}
	}
	if may < 1000 || not < 1000 {
		t.Errorf("%d programs may be written, %d may not: too few of one of them", may, not)
	}
}

// spoil changes something of a function, for good or ill.
func (m maker) spoil(f *api.Func) {
	small := m.Intn(7) - 2
	texts := []string{"", "f", "F", "i", "ip", ".", "f %1", "f\n  ret", "f() n {\n}\nfunc g", "b0", "%1", "# x"}
	if m.Intn(4) == 0 {
		switch m.Intn(3) {
		case 0:
			f.Name = m.one(texts...)
		case 1:
			f.Ret = small
		case 2:
			f.Params = append(f.Params, small)
		}
		return
	}
	if len(f.Blocks) == 0 || len(f.Blocks[0]) == 0 {
		return
	}
	x := &f.Blocks[0][m.Intn(len(f.Blocks[0]))]
	switch m.Intn(9) {
	case 0:
		x.Op = m.Intn(32) - 1
	case 1:
		x.Type = small
	case 2:
		x.Id = small
	case 3:
		x.N = []int64{-1, 0, 1, 15, 16, 255, 256, 1 << 20, 1<<20 + 1}[m.Intn(9)]
	case 4:
		x.Args = append(x.Args, small)
	case 5:
		x.To = append(x.To, small)
	case 6:
		x.Args = x.Args[:len(x.Args)/2]
	case 7:
		last(x.To, []int{-1, 0, 255, 256}[m.Intn(4)])
	case 8:
		x.Name = m.one(texts...)
	}
}

// Promise 7.4: the length of the text is not among what Whole looks at, though a text that is too long is not read.
func TestWholeLongText(t *testing.T) {
	call := api.Instr{Op: api.OCall, Id: -1, Name: "f", Args: make([]int, api.MaxText)}
	p := api.Prog{Funcs: []api.Func{{Name: "f", Blocks: [][]api.Instr{{call}}}}}
	mustWhole(t, api.OK, 0, p.Funcs...)
	if got := Text(p); got != "func f() n {\nb0:\n  call.n f"+strings.Repeat(" %0", api.MaxText)+"\n}\n" {
		t.Errorf("a long text is written as %d bytes", len(got))
	}
}
