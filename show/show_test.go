package show

import (
	"math"
	"reflect"
	"strconv"
	"strings"
	"testing"

	"turntable/api"
	"turntable/parse"
)

// ints is a list of numbers.
func ints(n ...int) []int { return n }

// Promise 7.1: the chapter's example.
func TestExample(t *testing.T) {
	x := api.Instr{Op: api.OStoreP, Id: -1, N: 2, Args: ints(3, 4)}
	if got := Instr(x); got != "store.p %3 2 %4" {
		t.Errorf("Instr is %q", got)
	}
}

// Promise 7.1: each operation's words, of each type, at the least and the greatest numbers.
func TestInstr(t *testing.T) {
	two := func(op int) api.Instr { return api.Instr{Op: op, Id: 9, Args: ints(3, 4)} }
	for want, x := range map[string]api.Instr{
		"%9 = const 5":                    {Op: api.OConst, Id: 9, N: 5},
		"%9 = const 0":                    {Op: api.OConst, Id: 9},
		"%0 = const -1":                   {Op: api.OConst, Id: 0, N: -1},
		"%9 = const -9223372036854775808": {Op: api.OConst, Id: 9, N: math.MinInt64},
		"%9 = const 9223372036854775807":  {Op: api.OConst, Id: 9, N: math.MaxInt64},
		"%1048576 = const 1048577":        {Op: api.OConst, Id: 1 << 20, N: 1<<20 + 1},
		"%9 = add %3 %4":                  two(api.OAdd),
		"%9 = sub %3 %4":                  two(api.OSub),
		"%9 = mul %3 %4":                  two(api.OMul),
		"%9 = div %3 %4":                  two(api.ODiv),
		"%9 = lt %3 %4":                   two(api.OLt),
		"%9 = eq %3 %4":                   two(api.OEq),
		"%9 = same %3 %4":                 two(api.OSame),
		"%9 = add %0 %1048576":            {Op: api.OAdd, Id: 9, Args: ints(0, 1<<20)},
		"%9 = nil":                        {Op: api.ONil, Id: 9},
		"%9 = new .":                      {Op: api.ONew, Id: 9, Name: "."},
		"%9 = new ip":                     {Op: api.ONew, Id: 9, Name: "ip"},
		"%9 = new pppppppppppppppp":       {Op: api.ONew, Id: 9, Name: "pppppppppppppppp"},
		"%9 = load.i %3 0":                {Op: api.OLoadI, Id: 9, Args: ints(3)},
		"%9 = load.p %3 15":               {Op: api.OLoadP, Id: 9, Args: ints(3), N: 15},
		"%9 = slot %3 7":                  {Op: api.OSlot, Id: 9, Args: ints(3), N: 7},
		"store.i %3 0 %4":                 {Op: api.OStoreI, Id: -1, Args: ints(3, 4)},
		"store.p %3 15 %4":                {Op: api.OStoreP, Id: -1, Args: ints(3, 4), N: 15},
		"%9 = get.i %3":                   {Op: api.OGetI, Id: 9, Args: ints(3)},
		"%9 = get.p %3":                   {Op: api.OGetP, Id: 9, Args: ints(3)},
		"put.i %3 %4":                     {Op: api.OPutI, Id: -1, Args: ints(3, 4)},
		"put.p %3 %4":                     {Op: api.OPutP, Id: -1, Args: ints(3, 4)},
		"%9 = phi.i b5 %3":                {Op: api.OPhi, Id: 9, Type: api.TInt, To: ints(5), Args: ints(3)},
		"%9 = phi.p b5 %3 b6 %4":          {Op: api.OPhi, Id: 9, Type: api.TPtr, To: ints(5, 6), Args: ints(3, 4)},
		"%9 = phi.d b0 %3 b0 %3 b255 %9":  {Op: api.OPhi, Id: 9, Type: api.TDer, To: ints(0, 0, 255), Args: ints(3, 3, 9)},
		"call.n f":                        {Op: api.OCall, Id: -1, Name: "f"},
		"call.n @8 f":                     {Op: api.OCall, Id: -1, Name: "f", N: 8},
		"call.n f %3":                     {Op: api.OCall, Id: -1, Name: "f", Args: ints(3)},
		"call.n @1 f %3":                  {Op: api.OCall, Id: -1, Name: "f", Args: ints(3), N: 1},
		"%9 = call.i fun_1 %3 %4 %5":      {Op: api.OCall, Id: 9, Type: api.TInt, Name: "fun_1", Args: ints(3, 4, 5)},
		"%9 = call.p @1048576 const %9":   {Op: api.OCall, Id: 9, Type: api.TPtr, N: 1 << 20, Name: "const", Args: ints(9)},
		"out %3":                          {Op: api.OOut, Id: -1, Args: ints(3)},
		"poll 0":                          {Op: api.OPoll, Id: -1},
		"poll 1048576":                    {Op: api.OPoll, Id: -1, N: 1 << 20},
		"%9 = reloc.p %3 12":              {Op: api.OReloc, Id: 9, Type: api.TPtr, Args: ints(3), N: 12},
		"%9 = reloc.d %3 0":               {Op: api.OReloc, Id: 9, Type: api.TDer, Args: ints(3)},
		"mark %3":                         {Op: api.OMark, Id: -1, Args: ints(3)},
		"br b0":                           {Op: api.OBr, Id: -1, To: ints(0)},
		"br b255":                         {Op: api.OBr, Id: -1, To: ints(255)},
		"if %3 b1 b0":                     {Op: api.OIf, Id: -1, Args: ints(3), To: ints(1, 0)},
		"ret":                             {Op: api.ORet, Id: -1},
		"ret %0":                          {Op: api.ORet, Id: -1, Args: ints(0)},
		"fail 0":                          {Op: api.OFail, Id: -1},
		"fail 255":                        {Op: api.OFail, Id: -1, N: 255},
	} {
		if got := Instr(x); got != want {
			t.Errorf("Instr(%+v) is %q, want %q", x, got, want)
		}
		x.At = 77
		if got := Instr(x); got != want {
			t.Errorf("Instr(%+v) is %q, want %q wherever it stood", x, got, want)
		}
	}
}

// Promise 7.1: instructions of each operation and type, by chance, with few and with many operands.
func TestInstrByChance(t *testing.T) {
	m := newMaker(1)
	for _, r := range rows {
		for more := range 300 {
			x, want := m.instr(r, more)
			if got := Instr(x); got != want {
				t.Fatalf("Instr(%+v) is %q, want %q", x, got, want)
			}
		}
	}
}

// Promise 7.2: the lines of functions: their heads, blocks and ends.
func TestFunc(t *testing.T) {
	ret := api.Instr{Op: api.ORet, Id: -1}
	out := api.Instr{Op: api.OOut, Id: -1, Args: ints(0)}
	name := strings.Repeat("z", api.MaxName)
	for want, f := range map[string]api.Func{
		"func f() n {\n}\n":                {Name: "f"},
		"func f() i {\n}\n":                {Name: "f", Ret: api.TInt},
		"func f() p {\n}\n":                {Name: "f", Ret: api.TPtr},
		"func f(i) n {\n}\n":               {Name: "f", Params: ints(api.TInt)},
		"func f(p) i {\n}\n":               {Name: "f", Params: ints(api.TPtr), Ret: api.TInt},
		"func main(i p) p {\n}\n":          {Name: "main", Params: ints(api.TInt, api.TPtr), Ret: api.TPtr},
		"func f(p i i i p p i p) n {\n}\n": {Name: "f", Params: ints(2, 1, 1, 1, 2, 2, 1, 2)},
		"func " + name + "() n {\n}\n":     {Name: name},
		"func f() n {\nb0:\n}\n":           {Name: "f", Blocks: [][]api.Instr{nil}},
		"func f() n {\nb0:\nb1:\nb2:\n}\n": {Name: "f", Blocks: [][]api.Instr{nil, {}, nil}},
		"func f() n {\nb0:\n  ret\n}\n":    {Name: "f", Blocks: [][]api.Instr{{ret}}},
		"func f(i) n {\nb0:\nb1:\n  out %0\n  ret\nb2:\n}\n": {
			Name: "f", Params: ints(api.TInt), Blocks: [][]api.Instr{nil, {out, ret}, nil}, At: 9},
		"func f(i) n {\nb0:\n  out %0\n  out %0\nb1:\n  ret\n}\n": {
			Name: "f", Params: ints(api.TInt), Blocks: [][]api.Instr{{out, out}, {ret}}},
	} {
		if got := Func(f); got != want {
			t.Errorf("Func(%+v) is %q, want %q", f, got, want)
		}
		if got := Text(api.Prog{Funcs: []api.Func{f}}); got != want {
			t.Errorf("Text of the one function %+v is %q, want %q", f, got, want)
		}
	}
	many := api.Func{Name: "f", Blocks: make([][]api.Instr, api.MaxBlocks)}
	want := "func f() n {\n"
	for i := range api.MaxBlocks {
		want += "b" + strconv.Itoa(i) + ":\n"
	}
	if got := Func(many); got != want+"}\n" {
		t.Errorf("Func of %d blocks is %q", api.MaxBlocks, got)
	}
}

// Promise 7.2: a program is its functions, one behind the other; without functions it is empty.
func TestText(t *testing.T) {
	if got := Text(api.Prog{}); got != "" {
		t.Errorf("Text of no functions is %q", got)
	}
	if got := Text(api.Prog{Funcs: []api.Func{}}); got != "" {
		t.Errorf("Text of an empty list is %q", got)
	}
	f := api.Func{Name: "f", Blocks: [][]api.Instr{{{Op: api.ORet, Id: -1}}}}
	g := api.Func{Name: "g", Params: ints(api.TInt), Ret: api.TInt}
	want := "func f() n {\nb0:\n  ret\n}\nfunc g(i) i {\n}\nfunc f() n {\nb0:\n  ret\n}\n"
	if got := Text(api.Prog{Funcs: []api.Func{f, g, f}}); got != want {
		t.Errorf("Text is %q, want %q", got, want)
	}
}

// Promise 7.2: functions and programs by chance; each line ends in the byte 10, and no other byte beside blanks stands between words.
func TestTextByChance(t *testing.T) {
	for seed := range 1000 {
		m := newMaker(seed)
		p, want := m.program(m.Intn(5), 5, 7)
		got := Text(p)
		if got != want {
			t.Fatalf("Text(%+v) is %q, want %q", p, got, want)
		}
		all := ""
		for _, f := range p.Funcs {
			all += Func(f)
		}
		if all != want {
			t.Fatalf("the functions one behind the other are %q, want %q", all, want)
		}
		if got != "" && !strings.HasSuffix(got, "\n") {
			t.Fatalf("%q does not end in the byte 10", got)
		}
		for _, line := range strings.Split(strings.TrimSuffix(got, "\n"), "\n") {
			if strings.ContainsAny(line, "\r\t") || strings.HasSuffix(line, " ") {
				t.Fatalf("the line %q has other bytes at its end, or between its words", line)
			}
		}
	}
}

// readAgain holds that a program that may be written is read again as what it was, but for where its parts stand.
func readAgain(t *testing.T, p api.Prog) {
	t.Helper()
	if e := Whole(p); e != (api.Err{}) {
		t.Fatalf("Whole is %v of what may be written: %+v", e, p)
	}
	text := Text(p)
	got, e := parse.Text(text)
	if e != (api.Err{}) {
		t.Fatalf("%q is written, and refused: %v", text, e)
	}
	if !reflect.DeepEqual(bareProg(got), bareProg(p)) {
		t.Fatalf("%q is read as %+v, want %+v", text, got, p)
	}
	if again := Text(got); again != text {
		t.Fatalf("what was read is written as %q, want %q", again, text)
	}
}

// Promise 7.5: programs by chance are read again as what they were, wherever their parts stood.
func TestReadAgain(t *testing.T) {
	readAgain(t, api.Prog{})
	for seed := range 1000 {
		m := newMaker(seed)
		p, _ := m.program(m.Intn(5), 5, 7)
		readAgain(t, p)
		for i := range p.Funcs {
			p.Funcs[i].At = m.Intn(1000) - 10
			for _, block := range p.Funcs[i].Blocks {
				for k := range block {
					block[k].At = m.Intn(1000) - 10
				}
			}
		}
		readAgain(t, p)
	}
}

// Promise 7.5: each two instructions one behind the other are read as these two, though one of them may take more words than it has.
func TestReadAgainEachTwo(t *testing.T) {
	m := newMaker(5)
	for _, r := range rows {
		for _, s := range rows {
			for more := range 9 {
				x, _ := m.instr(r, more/3)
				y, _ := m.instr(s, more%3)
				readAgain(t, api.Prog{Funcs: []api.Func{{Name: "f", Blocks: [][]api.Instr{{x, y}, {y}, {x}}}}})
			}
		}
	}
}

// Promise 7.5: programs at the limits are read again as what they were.
func TestReadAgainAtLimits(t *testing.T) {
	eight := ints(1, 2, 1, 2, 1, 2, 1, 2)
	funcs := make([]api.Func, api.MaxFuncs)
	for i := range funcs {
		funcs[i] = api.Func{Name: "f" + strconv.Itoa(i), Params: eight, Ret: i % 3, Blocks: [][]api.Instr{rets(api.MaxInstrs / api.MaxFuncs)}}
	}
	readAgain(t, api.Prog{Funcs: funcs})
	blocks := make([][]api.Instr, api.MaxBlocks)
	for i := range blocks {
		blocks[i] = rets(api.MaxInstrs / api.MaxBlocks)
	}
	readAgain(t, api.Prog{Funcs: []api.Func{{Name: "f", Blocks: blocks}}})
	readAgain(t, api.Prog{Funcs: []api.Func{{Name: "f", Blocks: [][]api.Instr{rets(api.MaxInstrs)}}}})
}

// Promise 7.5: what was read, with any blanks and notes, and is written, is read as the same again.
func TestWriteWhatWasRead(t *testing.T) {
	for seed := range 500 {
		m := newMaker(seed)
		_, text := m.program(m.Intn(4), 4, 5)
		var other strings.Builder
		for _, c := range text {
			other.WriteString(map[rune]string{
				' ':  m.one(" ", "  ", "\t", "\n", "\r\n", " # } : = %1\n"),
				'\n': m.one("\n", "\n\n", " ", "\t", "# a note\n"),
				'=':  m.one("=", "= ", " ="),
				':':  m.one(":", " :", ":\t"),
				'(':  m.one("(", " ( "),
			}[c])
			if !strings.ContainsRune(" \n=:(", c) {
				other.WriteRune(c)
			}
		}
		first, e := parse.Text(other.String())
		if e != (api.Err{}) {
			t.Fatalf("%q: %v", other.String(), e)
		}
		if got := Text(first); got != text {
			t.Fatalf("%q is written as %q, want %q", other.String(), got, text)
		}
		readAgain(t, first)
	}
	// A number that is told and need not be is not written.
	p, e := parse.Text("func f() n { b0: call.n @0 f }")
	if got := Text(p); e != (api.Err{}) || got != "func f() n {\nb0:\n  call.n f\n}\n" {
		t.Errorf("a call with @0 is written as %q", got)
	}
}

// Promise P0: none of the calls panics, whatever is handed in.
func TestNeverPanics(t *testing.T) {
	some := []int{0, 1, 2, 3, 4, -1, 29, 30, 255, 256, math.MinInt, math.MaxInt}
	m := newMaker(3)
	list := func() []int {
		l := make([]int, m.Intn(4))
		for i := range l {
			l[i] = some[m.Intn(len(some))]
		}
		return l
	}
	for seed := range 20000 {
		x := api.Instr{Op: seed%33 - 1, Id: some[m.Intn(len(some))], Type: some[m.Intn(6)], N: int64(some[m.Intn(len(some))]), Args: list(), To: list(), Name: m.one("", "f", "F", "ip", "\n", "\xff")}
		f := api.Func{Name: x.Name, Params: list(), Ret: x.Type, Blocks: [][]api.Instr{{x}}}
		p := api.Prog{Funcs: []api.Func{f, f}}
		if !strings.Contains(Func(f), Instr(x)) || !strings.Contains(Text(p), Func(f)) {
			t.Fatalf("what is written of %#v does not hold what it is made of", p)
		}
		if code := Check(x); Whole(api.Prog{Funcs: []api.Func{{Name: "f", Blocks: [][]api.Instr{{x}}}}}) != (api.Err{Code: code}) {
			t.Fatalf("Whole tells something else than Check of %#v", x)
		}
		Whole(p)
	}
}

// behind is a list that has more in its memory behind its length.
func behind[T any](l []T, more ...T) []T {
	return append(append(make([]T, 0, len(l)+len(more)), l...), more...)[:len(l)]
}

// Rule R3, promise P6: what is handed in is not changed, what lies behind its lists is not read, and who writes into it changes no answer that was given, and none to come.
func TestOwnMemory(t *testing.T) {
	for seed := range 200 {
		m := newMaker(seed)
		p, text := m.program(1+m.Intn(3), 4, 5)
		plain := bareProg(p)
		bad := api.Instr{Op: -7, Id: -7, Args: ints(-7)}
		p.Funcs = behind(p.Funcs, api.Func{Name: "?"}, api.Func{Ret: -7})
		for i := range p.Funcs {
			f := &p.Funcs[i]
			f.Params = behind(f.Params, -7, 99)
			f.Blocks = behind(f.Blocks, []api.Instr{bad})
			for j := range f.Blocks {
				f.Blocks[j] = behind(f.Blocks[j], bad, bad)
				for k := range f.Blocks[j] {
					x := &f.Blocks[j][k]
					x.Args, x.To = behind(x.Args, -7, 1<<30), behind(x.To, -7, 1<<30)
				}
			}
		}
		for range 2 {
			if got, e := Text(p), Whole(p); got != text || e != (api.Err{}) {
				t.Fatalf("%q, %v, want %q", got, e, text)
			}
			if !reflect.DeepEqual(bareProg(p), plain) {
				t.Fatalf("%+v was changed, it was %+v", p, plain)
			}
			for i := range p.Funcs {
				checkBehind(t, &p.Funcs[i])
			}
		}
		given := Text(p)
		for i := range p.Funcs {
			f := &p.Funcs[i]
			clear(f.Params)
			for j := range f.Blocks {
				for _, x := range f.Blocks[j] {
					clear(x.Args)
					clear(x.To)
				}
				clear(f.Blocks[j])
			}
			clear(f.Blocks)
		}
		clear(p.Funcs)
		if got, e := Text(plain), Whole(plain); given != text || got != text || e != (api.Err{}) {
			t.Fatalf("behind what was written into: %q, %q, %v, want %q", given, got, e, text)
		}
	}
}

// checkBehind holds that what lies behind a function's lists is as it was.
func checkBehind(t *testing.T, f *api.Func) {
	t.Helper()
	if l := f.Params[:cap(f.Params)][len(f.Params):]; l[0] != -7 || l[1] != 99 {
		t.Fatalf("behind the parameters stands %v", l)
	}
	if l := f.Blocks[:cap(f.Blocks)][len(f.Blocks):]; len(l[0]) != 1 || l[0][0].Op != -7 {
		t.Fatalf("behind the blocks stands %v", l)
	}
	for _, b := range f.Blocks {
		if l := b[:cap(b)][len(b):]; l[0].Op != -7 || l[1].Op != -7 {
			t.Fatalf("behind the instructions stands %v", l)
		}
		for _, x := range b {
			for _, l := range [][]int{x.Args, x.To} {
				if l = l[:cap(l)][len(l):]; l[0] != -7 || l[1] != 1<<30 {
					t.Fatalf("behind the values or labels stands %v", l)
				}
			}
		}
	}
}
