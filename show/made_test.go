package show

import (
	"math"
	"math/rand"
	"strconv"
	"strings"
	"testing"

	"turntable/api"
)

// row is what the document tells of an operation of a type: its word, whether it makes a value, the operands behind the word, and from which number to which its N may be.
// The operands, one behind the other: v a value, l a label, n a number, s a shape, f a name; (lv) a pair or more, (v) any number of values, [v] perhaps a value, [@] @ and a number if that is not 0.
type row struct {
	op, kind    int
	word        string
	makes       bool
	operands    string
	least, most int64
}

// rows is written from chapters 5 and 6, not from what is built on them.
var rows = []row{
	{api.OConst, api.TNone, "const", true, "n", math.MinInt64, math.MaxInt64},
	{api.OAdd, api.TNone, "add", true, "v v", 0, 0},
	{api.OSub, api.TNone, "sub", true, "v v", 0, 0},
	{api.OMul, api.TNone, "mul", true, "v v", 0, 0},
	{api.ODiv, api.TNone, "div", true, "v v", 0, 0},
	{api.OLt, api.TNone, "lt", true, "v v", 0, 0},
	{api.OEq, api.TNone, "eq", true, "v v", 0, 0},
	{api.ONil, api.TNone, "nil", true, "", 0, 0},
	{api.OSame, api.TNone, "same", true, "v v", 0, 0},
	{api.ONew, api.TNone, "new", true, "s", 0, 0},
	{api.OLoadI, api.TNone, "load.i", true, "v n", 0, 15},
	{api.OLoadP, api.TNone, "load.p", true, "v n", 0, 15},
	{api.OStoreI, api.TNone, "store.i", false, "v n v", 0, 15},
	{api.OStoreP, api.TNone, "store.p", false, "v n v", 0, 15},
	{api.OSlot, api.TNone, "slot", true, "v n", 0, 15},
	{api.OGetI, api.TNone, "get.i", true, "v", 0, 0},
	{api.OGetP, api.TNone, "get.p", true, "v", 0, 0},
	{api.OPutI, api.TNone, "put.i", false, "v v", 0, 0},
	{api.OPutP, api.TNone, "put.p", false, "v v", 0, 0},
	{api.OPhi, api.TInt, "phi.i", true, "(lv)", 0, 0},
	{api.OPhi, api.TPtr, "phi.p", true, "(lv)", 0, 0},
	{api.OPhi, api.TDer, "phi.d", true, "(lv)", 0, 0},
	{api.OCall, api.TNone, "call.n", false, "[@] f (v)", 0, 1 << 20},
	{api.OCall, api.TInt, "call.i", true, "[@] f (v)", 0, 1 << 20},
	{api.OCall, api.TPtr, "call.p", true, "[@] f (v)", 0, 1 << 20},
	{api.OOut, api.TNone, "out", false, "v", 0, 0},
	{api.OPoll, api.TNone, "poll", false, "n", 0, 1 << 20},
	{api.OReloc, api.TPtr, "reloc.p", true, "v n", 0, 1 << 20},
	{api.OReloc, api.TDer, "reloc.d", true, "v n", 0, 1 << 20},
	{api.OMark, api.TNone, "mark", false, "v", 0, 0},
	{api.OBr, api.TNone, "br", false, "l", 0, 0},
	{api.OIf, api.TNone, "if", false, "v l l", 0, 0},
	{api.ORet, api.TNone, "ret", false, "[v]", 0, 0},
	{api.OFail, api.TNone, "fail", false, "n", 0, 255},
}

// maker makes instructions, functions and programs that may be written, and the texts that they are, by chance that is the same each time.
type maker struct{ *rand.Rand }

func newMaker(seed int) maker { return maker{rand.New(rand.NewSource(int64(seed)))} }

// upTo is one of some numbers, the edges as often as all between.
func (m maker) upTo(most int) int {
	switch m.Intn(4) {
	case 0:
		return 0
	case 1:
		return most
	}
	return m.Intn(most + 1)
}

// number is a number that may stand in an instruction of a row.
func (m maker) number(r row) int64 {
	if r.op == api.OConst {
		return []int64{0, 1, -1, math.MinInt64, math.MaxInt64, m.Int63(), -m.Int63()}[m.Intn(7)]
	}
	return int64(m.upTo(int(r.most)))
}

// one of some texts.
func (m maker) one(of ...string) string { return of[m.Intn(len(of))] }

// name is a name, perhaps one that is a word elsewhere, too.
func (m maker) name() string {
	return m.one("f", "main", "b0", "b", "br", "ret", "i", "p", "n", "a_1", "zz9", "func", strings.Repeat("q", api.MaxName))
}

// instr makes an instruction of a row, and its text, with so many pairs or values where any number of them may be.
func (m maker) instr(r row, more int) (api.Instr, string) {
	x := api.Instr{Op: r.op, Type: r.kind, Id: -1}
	var words []string
	put := func(first, rest string) { words = append(words, first+rest) }
	if r.makes {
		x.Id = m.upTo(api.MaxValue)
		put("%", strconv.Itoa(x.Id))
		put("=", "")
	}
	put(r.word, "")
	takes := func() {
		v := m.upTo(api.MaxValue)
		x.Args = append(x.Args, v)
		put("%", strconv.Itoa(v))
	}
	goes := func() {
		b := m.upTo(255)
		x.To = append(x.To, b)
		put("b", strconv.Itoa(b))
	}
	for _, o := range strings.Fields(r.operands) {
		switch o {
		case "v":
			takes()
		case "l":
			goes()
		case "n":
			x.N = m.number(r)
			put("", strconv.FormatInt(x.N, 10))
		case "s":
			x.Name = m.one(".", "i", "p", "ip", "pi", "iiiiiiiiiiiiiiii", "pppppppppppppppp", "ipipi")
			put("", x.Name)
		case "f":
			x.Name = m.name()
			put("", x.Name)
		case "[@]":
			if x.N = m.number(r); x.N != 0 {
				put("@", strconv.FormatInt(x.N, 10))
			}
		case "(lv)":
			for range 1 + more {
				goes()
				takes()
			}
		case "(v)":
			for range more {
				takes()
			}
		case "[v]":
			if more > 0 {
				takes()
			}
		default:
			panic(o)
		}
	}
	return x, strings.Join(words, " ")
}

// function makes a function of so many blocks at most, each of so many instructions at most, and its lines.
func (m maker) function(blocks, instrs int) (api.Func, string) {
	f := api.Func{Name: m.name(), Ret: m.Intn(3)}
	var letters []string
	for range m.Intn(api.MaxParams + 1) {
		k := m.Intn(2)
		f.Params = append(f.Params, []int{api.TInt, api.TPtr}[k])
		letters = append(letters, []string{"i", "p"}[k])
	}
	text := "func " + f.Name + "(" + strings.Join(letters, " ") + ") " + []string{"n", "i", "p"}[f.Ret] + " {\n"
	for i := range m.Intn(blocks + 1) {
		var block []api.Instr
		text += "b" + strconv.Itoa(i) + ":\n"
		for range m.Intn(instrs + 1) {
			x, line := m.instr(rows[m.Intn(len(rows))], m.Intn(4))
			block = append(block, x)
			text += "  " + line + "\n"
		}
		f.Blocks = append(f.Blocks, block)
	}
	return f, text + "}\n"
}

// program makes a program of so many functions, and its text.
func (m maker) program(funcs, blocks, instrs int) (api.Prog, string) {
	var p api.Prog
	text := ""
	for range funcs {
		f, lines := m.function(blocks, instrs)
		p.Funcs = append(p.Funcs, f)
		text += lines
	}
	return p, text
}

// bare is a list in which none and an empty one are told alike, in memory of its own.
func bare[T any](l []T) []T { return append([]T(nil), l...) }

// bareInstr is an instruction without its place, with lists of its own.
func bareInstr(x api.Instr) api.Instr {
	x.Args, x.To, x.At = bare(x.Args), bare(x.To), 0
	return x
}

// bareProg is a program without places, with lists of its own.
func bareProg(p api.Prog) api.Prog {
	p.Funcs = bare(p.Funcs)
	for i := range p.Funcs {
		f := &p.Funcs[i]
		f.Params, f.Blocks, f.At = bare(f.Params), bare(f.Blocks), 0
		for j := range f.Blocks {
			f.Blocks[j] = bare(f.Blocks[j])
			for k := range f.Blocks[j] {
				f.Blocks[j][k] = bareInstr(f.Blocks[j][k])
			}
		}
	}
	return p
}

// The rows are of all 29 operations, and of all types that the document gives them.
func TestRows(t *testing.T) {
	var of [api.OFail + 1]int
	for _, r := range rows {
		of[r.op]++
	}
	for op := api.OConst; op <= api.OFail; op++ {
		want := 1
		switch op {
		case api.OPhi, api.OCall:
			want = 3
		case api.OReloc:
			want = 2
		}
		if of[op] != want {
			t.Errorf("%d rows of the operation %d, want %d", of[op], op, want)
		}
	}
}
