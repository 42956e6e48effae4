package parse

import (
	"math"
	"math/rand"
	"reflect"
	"strconv"
	"strings"
	"testing"

	"turntable/api"
	"turntable/ops"
	"turntable/token"
)

// clean is a program in which an empty list and none are told alike.
func clean(p api.Prog) api.Prog {
	var c api.Prog
	for _, f := range p.Funcs {
		g := f
		g.Params = append([]int(nil), f.Params...)
		g.Blocks = nil
		for _, b := range f.Blocks {
			var block []api.Instr
			for _, x := range b {
				x.Args = append([]int(nil), x.Args...)
				x.To = append([]int(nil), x.To...)
				block = append(block, x)
			}
			g.Blocks = append(g.Blocks, block)
		}
		c.Funcs = append(c.Funcs, g)
	}
	return c
}

// nowhere is a program without places.
func nowhere(p api.Prog) api.Prog {
	c := clean(p)
	for i := range c.Funcs {
		c.Funcs[i].At = 0
		for _, b := range c.Funcs[i].Blocks {
			for j := range b {
				b[j].At = 0
			}
		}
	}
	return c
}

// mustRead is the program of a text that is one.
func mustRead(t *testing.T, text string) api.Prog {
	t.Helper()
	p, e := Text(text)
	if e != (api.Err{}) {
		t.Fatalf("Text(%q): %v, want no error", cut(text), e)
	}
	return clean(p)
}

// cut is a text that is not too long to be told.
func cut(text string) string {
	if len(text) > 300 {
		return text[:150] + " ... " + text[len(text)-150:]
	}
	return text
}

// mustFail holds that a text is refused by a code at a place, with no program beside it.
func mustFail(t *testing.T, text string, code api.Code, at int) {
	t.Helper()
	p, e := Text(text)
	if e != (api.Err{Code: code, At: at}) {
		t.Errorf("Text(%q): %v, want %v", cut(text), e, api.Err{Code: code, At: at})
	}
	if len(p.Funcs) != 0 {
		t.Errorf("Text(%q): %v functions beside an error", cut(text), len(p.Funcs))
	}
}

// mustFailMarked is mustFail of a text in which ^ stands ahead of the place.
func mustFailMarked(t *testing.T, marked string, code api.Code) {
	t.Helper()
	at := strings.Index(marked, "^")
	if at < 0 || strings.Count(marked, "^") != 1 {
		t.Fatalf("%q has not one mark", cut(marked))
	}
	mustFail(t, marked[:at]+marked[at+1:], code, at)
}

// one is the instruction that a text is, in a function of its own.
func one(t *testing.T, text string) api.Instr {
	t.Helper()
	p := mustRead(t, "func f() n { b0: "+text+" }")
	if len(p.Funcs) != 1 || len(p.Funcs[0].Blocks) != 1 || len(p.Funcs[0].Blocks[0]) != 1 {
		t.Fatalf("%q is not one instruction: %v", text, p)
	}
	x := p.Funcs[0].Blocks[0][0]
	if x.At != 17 {
		t.Errorf("%q stands at %d, want 17", text, x.At)
	}
	x.At = 0
	return x
}

// Promise 6.1: a text without words is a program without functions.
func TestNoWords(t *testing.T) {
	for _, text := range []string{"", " ", "\n", "\t\r\n  ", "#", "# func main", "# a\n# b\n", "  # ?\r\n\t", strings.Repeat(" ", api.MaxText)} {
		if p := mustRead(t, text); len(p.Funcs) != 0 {
			t.Errorf("Text(%q) has functions: %v", cut(text), p)
		}
	}
}

// Promise 6.1: what is no text of words is refused as token.Split refuses it, ahead of all that the words are.
func TestNoText(t *testing.T) {
	for _, marked := range []string{"^?", "func main() n { b0: ret } ^+", "x y ^$ z", "func ^\"main\"", "func main() n { ^; }", "a\n # ?\n ^\x00", "func main(^, i) n { }", "} ^\xff", "func ^é"} {
		mustFailMarked(t, marked, api.ErrText)
	}
	mustFail(t, strings.Repeat(" ", api.MaxText+1), api.ErrLimit, api.MaxText)
	mustFail(t, strings.Repeat("x ", api.MaxText), api.ErrLimit, api.MaxText)
	mustFail(t, "?"+strings.Repeat(" ", api.MaxText), api.ErrLimit, api.MaxText)
}

// Promises 6.1, 6.2: the chapter's examples.
func TestExamples(t *testing.T) {
	mustFail(t, "func main() n { b0: x }", api.ErrWord, 20)
	mustFail(t, "func main() n { b1: ret }", api.ErrLabel, 16)
}

// step is a word of a text, what is answered if the text ends ahead of it, and what, if a word that fits nowhere stands in its place; back is how many words ahead of it that is met.
type step struct {
	word      string
	end       api.Code
	endBack   int
	other     api.Code
	otherBack int
}

// Two functions, with the codes of each word's absence, and of another one in its place.
var steps = []step{
	{"func", api.OK, 0, api.ErrWord, 0},
	{"main", api.ErrName, 0, api.ErrName, 0},
	{"(", api.ErrWord, 0, api.ErrWord, 0},
	{"i", api.ErrType, 0, api.ErrType, 0},
	{"p", api.ErrType, 0, api.ErrType, 0},
	{")", api.ErrType, 0, api.ErrType, 0},
	{"i", api.ErrType, 0, api.ErrType, 0},
	{"{", api.ErrWord, 0, api.ErrWord, 0},
	{"b0", api.ErrLabel, 0, api.ErrLabel, 0},
	{":", api.ErrWord, 0, api.ErrWord, 0},
	{"%2", api.ErrWord, 0, api.ErrValue, 0},
	{"=", api.ErrWord, 1, api.ErrWord, 1},
	{"const", api.ErrWord, 0, api.ErrWord, 0},
	{"-5", api.ErrNumber, 0, api.ErrNumber, 0},
	{"%3", api.ErrWord, 0, api.ErrValue, 0},
	{"=", api.ErrWord, 1, api.ErrWord, 1},
	{"new", api.ErrWord, 0, api.ErrWord, 0},
	{"ip", api.ErrShape, 0, api.ErrShape, 0},
	{"store.i", api.ErrWord, 0, api.ErrWord, 0},
	{"%3", api.ErrValue, 0, api.ErrValue, 0},
	{"0", api.ErrNumber, 0, api.ErrNumber, 0},
	{"%2", api.ErrValue, 0, api.ErrValue, 0},
	{"poll", api.ErrWord, 0, api.ErrWord, 0},
	{"7", api.ErrNumber, 0, api.ErrNumber, 0},
	{"%4", api.ErrWord, 0, api.ErrValue, 0},
	{"=", api.ErrWord, 1, api.ErrWord, 1},
	{"reloc.p", api.ErrWord, 0, api.ErrWord, 0},
	{"%3", api.ErrValue, 0, api.ErrValue, 0},
	{"7", api.ErrNumber, 0, api.ErrNumber, 0},
	{"out", api.ErrWord, 0, api.ErrWord, 0},
	{"%2", api.ErrValue, 0, api.ErrValue, 0},
	{"call.n", api.ErrWord, 0, api.ErrWord, 0},
	{"@9", api.ErrName, 0, api.ErrName, 0},
	{"other", api.ErrName, 0, api.ErrName, 0},
	{"%2", api.ErrWord, 0, api.ErrWord, 0},
	{"if", api.ErrWord, 0, api.ErrWord, 0},
	{"%2", api.ErrValue, 0, api.ErrValue, 0},
	{"b1", api.ErrLabel, 0, api.ErrLabel, 0},
	{"b2", api.ErrLabel, 0, api.ErrLabel, 0},
	{"b1", api.ErrWord, 0, api.ErrLabel, 0},
	{":", api.ErrWord, 1, api.ErrWord, 1},
	{"%5", api.ErrWord, 0, api.ErrValue, 0},
	{"=", api.ErrWord, 1, api.ErrWord, 1},
	{"phi.i", api.ErrWord, 0, api.ErrWord, 0},
	{"b0", api.ErrLabel, 0, api.ErrLabel, 0},
	{"%2", api.ErrValue, 0, api.ErrValue, 0},
	{"b1", api.ErrWord, 0, api.ErrWord, 0},
	{"%5", api.ErrValue, 0, api.ErrValue, 0},
	{"br", api.ErrWord, 0, api.ErrWord, 0},
	{"b1", api.ErrLabel, 0, api.ErrLabel, 0},
	{"b2", api.ErrWord, 0, api.ErrLabel, 0},
	{":", api.ErrWord, 1, api.ErrWord, 1},
	{"ret", api.ErrWord, 0, api.ErrWord, 0},
	{"%2", api.ErrWord, 0, api.ErrWord, 0},
	{"}", api.ErrWord, 0, api.ErrWord, 0},
	{"func", api.OK, 0, api.ErrWord, 0},
	{"other", api.ErrName, 0, api.ErrName, 0},
	{"(", api.ErrWord, 0, api.ErrWord, 0},
	{"i", api.ErrType, 0, api.ErrType, 0},
	{")", api.ErrType, 0, api.ErrType, 0},
	{"n", api.ErrType, 0, api.ErrType, 0},
	{"{", api.ErrWord, 0, api.ErrWord, 0},
	{"b0", api.ErrLabel, 0, api.ErrLabel, 0},
	{":", api.ErrWord, 0, api.ErrWord, 0},
	{"fail", api.ErrWord, 0, api.ErrWord, 0},
	{"3", api.ErrNumber, 0, api.ErrNumber, 0},
	{"}", api.ErrWord, 0, api.ErrWord, 0},
}

// lay is the words of the steps with something between, and where each begins; behind the last one, where the text ends.
func lay(words []string, between string) (string, []int) {
	var text strings.Builder
	var at []int
	for _, w := range words {
		text.WriteString(between)
		at = append(at, text.Len())
		text.WriteString(w)
	}
	text.WriteString(between)
	return text.String(), append(at, text.Len())
}

// Promises 6.1, 6.2: texts that end behind each word of a function.
func TestEnds(t *testing.T) {
	for _, between := range []string{" ", "\n\t", " # note } : = %1\n"} {
		var words []string
		for i, s := range steps {
			text, at := lay(words, between)
			if s.end == api.OK {
				mustRead(t, text)
			} else {
				mustFail(t, text, s.end, at[i-s.endBack])
			}
			words = append(words, s.word)
		}
		text, _ := lay(words, between)
		mustRead(t, text)
	}
}

// Promises 6.1, 6.2: a word that fits nowhere in the place of each word, with the others behind it.
func TestOtherWords(t *testing.T) {
	for _, other := range []string{"A", "-", "X.1", "_", "("} {
		for i, s := range steps {
			if s.word == other {
				continue
			}
			var words []string
			for _, w := range steps {
				words = append(words, w.word)
			}
			words[i] = other
			text, at := lay(words, " ")
			mustFail(t, text, s.other, at[i-s.otherBack])
		}
	}
}

// Promise 6.2: each code of the grammar, at the word at which it is met.
func TestGrammarCodes(t *testing.T) {
	long := strings.Repeat("a", api.MaxName+1)
	for _, c := range []struct {
		code   api.Code
		marked []string
	}{
		{api.ErrWord, []string{
			"^x", "^main", "^Func main() n { }", "^functions", "^{", "^}", "^b0: ret", "^:", "^%1 = const 1",
			"func main ^) n { }", "func main ^{ }", "func main ^i) n { }", "func main ^: () n { }",
			"func main() n ^( }", "func main() n ^b0: ret }", "func main() n ^n { }", "func main() i ^} ",
			"func main() n { b0 ^ret }", "func main() n { b0 ^}", "func main() n { b0 ^= const 1 }", "func main() n { b0 ^b1 : ret }", "func main() n { b0 ^{ : }",
			"func main() n { b0: ^x }", "func main() n { b0: ^RET }", "func main() n { b0: ^ret.i }", "func main() n { b0: ^phi b0 %1 }", "func main() n { b0: %1 = ^phi b0 %1 }",
			"func main() n { b0: %1 = ^phi.n b0 %1 }", "func main() n { b0: %1 = ^reloc.i %1 1 }", "func main() n { b0: ^call f }", "func main() n { b0: %1 = ^call.d f }", "func main() n { b0: ^move }",
			"func main() n { b0: ^%1 const 1 }", "func main() n { b0: ^%1 }", "func main() n { b0: %1 = ^}", "func main() n { b0: %1 = ^= const 1 }", "func main() n { b0: %1 = ^%2 }", "func main() n { b0: %1 = ^5 }",
			"func main() n { b0: ^( }", "func main() n { b0: ^) }", "func main() n { b0: ^{ }", "func main() n { b0: ret ^{ } }", "func main() n { b0: ^b1 ret }", "func main() n { b0: ^func f() n { b0: ret }",
			"func main() n { b0: ret ^br2 }", "func main() n { } ^}", "func main() n { } ^)", "func main() n { b0: ret } ^: ret }",
			"func main() n { b0: out %1 ^%2 }", "func main() n { b0: ret %1 ^%2 }", "func main() n { b0: br b0 ^b0 }", "func main() n { b0: poll 1 ^2 }",
		}},
		{api.ErrName, []string{
			"func ^() n { }", "func ^Main() n { }", "func ^1() n { }", "func ^_a() n { }", "func ^a.b() n { }", "func ^a-b() n { }", "func ^%1() n { }", "func ^@() n { }", "func ^: main() n { }", "func ^{ }", "func ^mainA() n { }",
			"func ^" + long + "() n { }",
		}},
		{api.ErrType, []string{
			"func main(^d) n { }", "func main(^n) n { }", "func main(i ^n) n { }", "func main(p ^ii) n { }", "func main(^I) n { }", "func main(^() n { }", "func main(i ^{", "func main(^%0) n { }", "func main(^: i) n { }", "func main(i ^= i) n { }",
			"func main() ^d { }", "func main() ^{ }", "func main() ^nn { }", "func main() ^N { }", "func main() ^0 { }", "func main() ^) { }", "func main() ^ip { }", "func main() ^void { }",
		}},
		{api.ErrLabel, []string{
			"func main() n { ^ret }", "func main() n { ^: }", "func main() n { ^{ }", "func main() n { ^b }", "func main() n { ^b: ret }", "func main() n { ^b1: ret }", "func main() n { ^b00: ret }", "func main() n { ^b-0: ret }", "func main() n { ^b-1: ret }",
			"func main() n { ^B0: ret }", "func main() n { ^0: ret }", "func main() n { ^b0a: ret }", "func main() n { ^b256: ret }", "func main() n { ^b99999999999999999999: ret }", "func main() n { ^%0 = const 1 }", "func main() n { ^a0: ret }", "func main() n { ^main: ret }",
			"func main() n { b0: ret ^b0: ret }", "func main() n { b0: ret ^b2: ret }", "func main() n { b0: ^b01: ret }", "func main() n { b0: b1: ^b1: ret }", "func main() n { b0: ret b1: ret ^b3: b2: }", "func main() n { b0: ^ret : }", "func main() n { b0: ^: : }", "func main() n { b0: ^%1 : }", "func main() n { b0: ^= : }", "func main() n { b0: %1 = const 1 ^const : 2 }", "func main() n { b0: ret ^b1x: ret }",
			"func a() n { b0: b1: } func main() n { ^b2: ret }", "func a() n { b0: b1: } func main() n { ^b1: ret }",
		}},
		{api.ErrValue, []string{
			"func main() n { b0: ^1 = const 1 }", "func main() n { b0: ^% = const 1 }", "func main() n { b0: ^%x = const 1 }", "func main() n { b0: ^%01 = const 1 }", "func main() n { b0: ^%-1 = const 1 }", "func main() n { b0: ^%-0 = const 1 }", "func main() n { b0: ^%1048577 = const 1 }", "func main() n { b0: ^%99999999999999999999 = const 1 }", "func main() n { b0: ^%4294967297 = const 1 }",
			"func main() n { b0: ^%%1 = const 1 }", "func main() n { b0: ^b1 = const 1 }", "func main() n { b0: ^@1 = const 1 }", "func main() n { b0: ^const = 1 }", "func main() n { b0: ^= = const 1 }", "func main() n { b0: ^: = const 1 }", "func main() n { b0: ^ret = ret }", "func main() n { b0: ^{ = ret }", "func main() n { b0: ^( = ret }", "func main() n { b0: ^%1.0 = const 1 }",
			"func main() n { b0: %1 = const 1 ^%2x = const 1 }",
		}},
	} {
		for _, marked := range c.marked {
			mustFailMarked(t, marked, c.code)
		}
	}
}

// words of all operations, with operands that fit; those of the first list make a value.
var making = []string{"const 1", "add %1 %2", "sub %1 %2", "mul %1 %2", "div %1 %2", "lt %1 %2", "eq %1 %2", "nil", "same %1 %2", "new i", "load.i %1 2", "load.p %1 2", "slot %1 2", "get.i %1", "get.p %1", "phi.i b0 %1", "phi.p b0 %1", "phi.d b0 %1", "call.i f", "call.p f", "reloc.p %1 2", "reloc.d %1 2"}
var makingNone = []string{"store.i %1 2 %3", "store.p %1 2 %3", "put.i %1 %2", "put.p %1 %2", "call.n f", "out %1", "poll 1", "mark %1", "br b0", "if %1 b0 b1", "ret", "ret %1", "fail 1"}

// Promise 6.2: a value where the operation makes none, and none where it makes one; told at the word, ahead of what stands behind it.
func TestValueOrNone(t *testing.T) {
	for _, text := range making {
		if x := one(t, "%7 = "+text); x.Id != 7 {
			t.Errorf("%q: Id %d, want 7", text, x.Id)
		}
		mustFailMarked(t, "func f() n { b0: ^"+text+" }", api.ErrValue)
		mustFailMarked(t, "func f() n { b0: ret ^"+strings.Fields(text)[0]+" }", api.ErrValue)
		mustFailMarked(t, "func f() n { b0: ret ^"+strings.Fields(text)[0], api.ErrValue)
	}
	for _, text := range makingNone {
		if x := one(t, text); x.Id != -1 {
			t.Errorf("%q: Id %d, want -1", text, x.Id)
		}
		mustFailMarked(t, "func f() n { b0: %7 = ^"+text+" }", api.ErrValue)
		mustFailMarked(t, "func f() n { b0: ret %7 = ^"+strings.Fields(text)[0]+" ) }", api.ErrValue)
	}
}

// Promises 6.1, 6.2: of two things that are wrong the one that is met first, and of two codes of one word the one that is named first.
func TestFirstOfTwo(t *testing.T) {
	for _, c := range []struct {
		marked string
		code   api.Code
	}{
		{"^fun Main() n { }", api.ErrWord},
		{"func ^Main(d) n { }", api.ErrName},
		{"func ^Main i) n { }", api.ErrName},
		{"func main(^d) x { }", api.ErrType},
		{"func main() ^x ( }", api.ErrType},
		{"func main() ^x b1: }", api.ErrType},
		{"func main() n ^b1: { x }", api.ErrWord},
		{"func main() n { ^b1 x }", api.ErrLabel},
		{"func main() n { ^b1: x }", api.ErrLabel},
		{"func main() n { b0: ^x b2: ret }", api.ErrWord},
		{"func main() n { b0: ^x = x }", api.ErrValue},
		{"func main() n { b0: ^%x = ret }", api.ErrValue},
		{"func main() n { b0: %1 = ^x %y }", api.ErrWord},
		{"func main() n { b0: %1 = ^ret %y }", api.ErrValue},
		{"func main() n { b0: %1 = const ^x %1 = const y }", api.ErrNumber},
		{"func main() n { b0: store.i %1 ^16 x }", api.ErrRange},
		{"func main() n { b0: store.i ^1 16 %x }", api.ErrValue},
		{"func main() n { b0: store.i %1 ^x 5 }", api.ErrNumber},
		{"func main() n { b0: store.i %1 1 ^5 }", api.ErrValue},
		{"func main() n { b0: %1 = phi.i ^b256 x }", api.ErrLabel},
		{"func main() n { b0: %1 = phi.i b0 ^x b256 %1 }", api.ErrValue},
		{"func main() n { b0: call.n ^@x F }", api.ErrNumber},
		{"func main() n { b0: call.n ^F %x }", api.ErrName},
		{"func main() n { b0: if ^x y z }", api.ErrValue},
		{"func main() n { b0: if %1 ^y z }", api.ErrLabel},
		{"func a() n { b0: ^x } func main() n { b1: ret }", api.ErrWord},
		{"func a() n { ^b1: ret } x", api.ErrLabel},
	} {
		mustFailMarked(t, c.marked, c.code)
	}
}

// functions is so many functions, one behind the other.
func functions(count int) string { return strings.Repeat("func f() n { } ", count) }

// Promise 6.2: 32 functions, and not one more, whatever stands there.
func TestFunctionsLimit(t *testing.T) {
	if p := mustRead(t, functions(api.MaxFuncs)); len(p.Funcs) != api.MaxFuncs {
		t.Errorf("%d functions, want %d", len(p.Funcs), api.MaxFuncs)
	}
	for _, more := range []string{"^func f() n { }", "^func", "^func F", "^x", "^}", "^: "} {
		mustFailMarked(t, functions(api.MaxFuncs)+more, api.ErrLimit)
	}
	mustFailMarked(t, functions(api.MaxFuncs-1)+"^x", api.ErrWord)
	mustFailMarked(t, functions(api.MaxFuncs-1)+"func f() n { b0: ^x } func f() n { }", api.ErrWord)
	mustFailMarked(t, functions(api.MaxFuncs)+"^func f() n { } "+functions(5), api.ErrLimit)
}

// Promise 6.2: the types of parameters and of what is answered; 8 parameters, and not one more.
func TestTypesAndParams(t *testing.T) {
	letters := map[string]int{"n": api.TNone, "i": api.TInt, "p": api.TPtr}
	for params := 0; params <= api.MaxParams; params++ {
		for bits := range 1 << params {
			var words []string
			var want []int
			for i := range params {
				word := []string{"i", "p"}[bits>>i&1]
				words = append(words, word)
				want = append(want, letters[word])
			}
			for letter, ret := range letters {
				p := mustRead(t, "func f("+strings.Join(words, " ")+") "+letter+" { }")
				if f := p.Funcs[0]; !reflect.DeepEqual(f.Params, want) || f.Ret != ret || f.Name != "f" || len(f.Blocks) != 0 {
					t.Fatalf("parameters %q, answer %q: %v", words, letter, f)
				}
			}
		}
	}
	eight := "func f(i p i p i p i p "
	for _, more := range []string{"^i) n { }", "^p) n { }", "^i", "^i d", "^p p p p"} {
		mustFailMarked(t, eight+more, api.ErrLimit)
	}
	for _, more := range []string{"^n) n { }", "^d) n { }", "^x", "^{", "^", "^ip) n { }"} {
		mustFailMarked(t, eight+more, api.ErrType)
	}
}

// blocks is the blocks from nought on, so many, each with something in it.
func blocks(count int, each string) string {
	var text strings.Builder
	for i := range count {
		text.WriteString("b" + strconv.Itoa(i) + ": " + each + " ")
	}
	return text.String()
}

// Promise 6.2: 256 blocks in a function, and not one more; a block ends at }, or ahead of a word with : behind it.
func TestBlocksLimit(t *testing.T) {
	for _, each := range []string{"", "ret", "ret ret"} {
		for _, count := range []int{0, 1, 2, 10, 11, 255, 256} {
			p := mustRead(t, "func f() n { "+blocks(count, each)+"}")
			if len(p.Funcs[0].Blocks) != count {
				t.Fatalf("%d blocks, want %d", len(p.Funcs[0].Blocks), count)
			}
			for _, b := range p.Funcs[0].Blocks {
				if len(b) != len(strings.Fields(each)) {
					t.Fatalf("a block of %q has %d instructions", each, len(b))
				}
			}
		}
		all := "func f() n { " + blocks(api.MaxBlocks, each)
		for _, more := range []string{"^b256: ret }", "^b0: ret }", "^b256 :", "^x :"} {
			mustFailMarked(t, all+more, api.ErrLimit)
		}
		mustFailMarked(t, all+"^b256 ret }", api.ErrWord)
		mustFailMarked(t, "func f() n { "+blocks(api.MaxBlocks-1, each)+"^b256: ret }", api.ErrLabel)
		// Each function has blocks of its own.
		mustRead(t, all+"} "+all+"}")
	}
}

// Promise 6.2: 4096 instructions in all, and not one more.
func TestInstrsLimit(t *testing.T) {
	rets := func(count int) string { return strings.Repeat("ret ", count) }
	full := "func f() n { b0: " + rets(api.MaxInstrs)
	if p := mustRead(t, full+"}"); len(p.Funcs[0].Blocks[0]) != api.MaxInstrs {
		t.Errorf("%d instructions, want %d", len(p.Funcs[0].Blocks[0]), api.MaxInstrs)
	}
	for _, more := range []string{"^ret }", "^x }", "^%1 = const 1", "^x = x", "^b1"} {
		mustFailMarked(t, full+more, api.ErrLimit)
	}
	mustFailMarked(t, "func f() n { b0: "+rets(api.MaxInstrs-1)+"^x }", api.ErrWord)
	mustRead(t, full+"b1: b2: }")
	mustRead(t, full+"} func g() n { b0: b1: }")
	mustFailMarked(t, full+"b1: ^ret }", api.ErrLimit)
	mustFailMarked(t, full+"} func g() n { b0: ^ret }", api.ErrLimit)
	mustFailMarked(t, full+"} func g() n { ^b1: ret }", api.ErrLabel)
	half := "func f() n { b0: " + rets(api.MaxInstrs/4) + "b1: " + rets(api.MaxInstrs/4) + "} "
	mustRead(t, half+half)
	mustFailMarked(t, half+half+"func g() n { b0: b1: ^ret }", api.ErrLimit)
	mustRead(t, "func f() n { "+blocks(api.MaxBlocks, rets(api.MaxInstrs/api.MaxBlocks))+"}")
	mustFailMarked(t, "func f() n { "+blocks(api.MaxBlocks, rets(api.MaxInstrs/api.MaxBlocks))+"^ret }", api.ErrLimit)
}

// Promises 6.2, 6.3: what is read of each operation's instructions, field by field.
func TestEachOperation(t *testing.T) {
	list := func(n ...int) []int { return n }
	two := func(op int) api.Instr { return api.Instr{Op: op, Id: 9, Args: list(3, 4)} }
	for text, want := range map[string]api.Instr{
		"%9 = const 5":                    {Op: api.OConst, Id: 9, N: 5},
		"%9 = const -9223372036854775808": {Op: api.OConst, Id: 9, N: math.MinInt64},
		"%9 = const 9223372036854775807":  {Op: api.OConst, Id: 9, N: math.MaxInt64},
		"%9 = const 0":                    {Op: api.OConst, Id: 9},
		"%0 = const -1":                   {Op: api.OConst, Id: 0, N: -1},
		"%1048576 = const 1048577":        {Op: api.OConst, Id: 1 << 20, N: 1<<20 + 1},
		"%9 = add %3 %4":                  two(api.OAdd),
		"%9 = sub %3 %4":                  two(api.OSub),
		"%9 = mul %3 %4":                  two(api.OMul),
		"%9 = div %3 %4":                  two(api.ODiv),
		"%9 = lt %3 %4":                   two(api.OLt),
		"%9 = eq %3 %4":                   two(api.OEq),
		"%9 = same %3 %4":                 two(api.OSame),
		"%9 = add %9 %9":                  {Op: api.OAdd, Id: 9, Args: list(9, 9)},
		"%9 = nil":                        {Op: api.ONil, Id: 9},
		"%9 = new .":                      {Op: api.ONew, Id: 9, Name: "."},
		"%9 = new ip":                     {Op: api.ONew, Id: 9, Name: "ip"},
		"%9 = new pppppppppppppppp":       {Op: api.ONew, Id: 9, Name: "pppppppppppppppp"},
		"%9 = load.i %3 0":                {Op: api.OLoadI, Id: 9, Args: list(3)},
		"%9 = load.p %3 15":               {Op: api.OLoadP, Id: 9, Args: list(3), N: 15},
		"%9 = slot %3 7":                  {Op: api.OSlot, Id: 9, Args: list(3), N: 7},
		"store.i %3 1 %4":                 {Op: api.OStoreI, Id: -1, Args: list(3, 4), N: 1},
		"store.p %3 14 %4":                {Op: api.OStoreP, Id: -1, Args: list(3, 4), N: 14},
		"%9 = get.i %3":                   {Op: api.OGetI, Id: 9, Args: list(3)},
		"%9 = get.p %3":                   {Op: api.OGetP, Id: 9, Args: list(3)},
		"put.i %3 %4":                     {Op: api.OPutI, Id: -1, Args: list(3, 4)},
		"put.p %3 %4":                     {Op: api.OPutP, Id: -1, Args: list(3, 4)},
		"%9 = phi.i b5 %3":                {Op: api.OPhi, Id: 9, Type: api.TInt, To: list(5), Args: list(3)},
		"%9 = phi.p b5 %3 b6 %4":          {Op: api.OPhi, Id: 9, Type: api.TPtr, To: list(5, 6), Args: list(3, 4)},
		"%9 = phi.d b5 %3 b5 %3 b255 %9":  {Op: api.OPhi, Id: 9, Type: api.TDer, To: list(5, 5, 255), Args: list(3, 3, 9)},
		"call.n f":                        {Op: api.OCall, Id: -1, Name: "f"},
		"call.n @8 f":                     {Op: api.OCall, Id: -1, Name: "f", N: 8},
		"call.n @0 f %3":                  {Op: api.OCall, Id: -1, Name: "f", Args: list(3)},
		"%9 = call.i fun_1 %3 %4 %5":      {Op: api.OCall, Id: 9, Type: api.TInt, Name: "fun_1", Args: list(3, 4, 5)},
		"%9 = call.p @1048576 const %9":   {Op: api.OCall, Id: 9, Type: api.TPtr, N: 1 << 20, Name: "const", Args: list(9)},
		"%9 = call.p f %0 %1 %2 %3 %4 %5 %6 %7 %8 %9": {Op: api.OCall, Id: 9, Type: api.TPtr, Name: "f", Args: list(0, 1, 2, 3, 4, 5, 6, 7, 8, 9)},
		"out %3":             {Op: api.OOut, Id: -1, Args: list(3)},
		"poll 0":             {Op: api.OPoll, Id: -1},
		"poll 1048576":       {Op: api.OPoll, Id: -1, N: 1 << 20},
		"%9 = reloc.p %3 12": {Op: api.OReloc, Id: 9, Type: api.TPtr, Args: list(3), N: 12},
		"%9 = reloc.d %3 0":  {Op: api.OReloc, Id: 9, Type: api.TDer, Args: list(3)},
		"mark %3":            {Op: api.OMark, Id: -1, Args: list(3)},
		"br b0":              {Op: api.OBr, Id: -1, To: list(0)},
		"br b255":            {Op: api.OBr, Id: -1, To: list(255)},
		"if %3 b1 b0":        {Op: api.OIf, Id: -1, Args: list(3), To: list(1, 0)},
		"ret":                {Op: api.ORet, Id: -1},
		"ret %3":             {Op: api.ORet, Id: -1, Args: list(3)},
		"fail 0":             {Op: api.OFail, Id: -1},
		"fail 255":           {Op: api.OFail, Id: -1, N: 255},
	} {
		if got := one(t, text); !reflect.DeepEqual(got, want) {
			t.Errorf("%q is %+v, want %+v", text, got, want)
		}
	}
}

// places is each place of a number: what stands ahead of it and behind it, its greatest one, and the codes of what is no number, and of what is not within.
var places = []struct {
	ahead, behind string
	most          int
	no, beyond    api.Code
}{
	{"%9 = load.i %1 ", "", 15, api.ErrNumber, api.ErrRange},
	{"%9 = load.p %1 ", "", 15, api.ErrNumber, api.ErrRange},
	{"%9 = slot %1 ", "", 15, api.ErrNumber, api.ErrRange},
	{"store.i %1 ", " %2", 15, api.ErrNumber, api.ErrRange},
	{"store.p %1 ", " %2", 15, api.ErrNumber, api.ErrRange},
	{"poll ", "", 1 << 20, api.ErrNumber, api.ErrRange},
	{"%9 = reloc.p %1 ", "", 1 << 20, api.ErrNumber, api.ErrRange},
	{"%9 = reloc.d %1 ", "", 1 << 20, api.ErrNumber, api.ErrRange},
	{"fail ", "", 255, api.ErrNumber, api.ErrRange},
	{"call.n @", " f", 1 << 20, api.ErrNumber, api.ErrNumber},
	{"%9 = call.i @", " f %1", 1 << 20, api.ErrNumber, api.ErrNumber},
	{"%9 = call.p @", " f", 1 << 20, api.ErrNumber, api.ErrNumber},
}

// valuePlaces is each place of a value; labelPlaces each of a label: what stands ahead of its number, and behind it.
var valuePlaces = [][2]string{
	{"%", " = const 1"}, {"%", " = phi.i b0 %0"},
	{"%9 = add %", " %1"}, {"%9 = add %1 %", ""}, {"%9 = sub %", " %1"}, {"%9 = sub %1 %", ""}, {"%9 = mul %", " %1"}, {"%9 = mul %1 %", ""},
	{"%9 = div %", " %1"}, {"%9 = div %1 %", ""}, {"%9 = lt %", " %1"}, {"%9 = lt %1 %", ""}, {"%9 = eq %", " %1"}, {"%9 = eq %1 %", ""}, {"%9 = same %", " %1"}, {"%9 = same %1 %", ""},
	{"%9 = load.i %", " 1"}, {"%9 = load.p %", " 1"}, {"%9 = slot %", " 1"}, {"store.i %", " 1 %1"}, {"store.i %1 1 %", ""}, {"store.p %", " 1 %1"}, {"store.p %1 1 %", ""},
	{"%9 = get.i %", ""}, {"%9 = get.p %", ""}, {"put.i %", " %1"}, {"put.i %1 %", ""}, {"put.p %", " %1"}, {"put.p %1 %", ""},
	{"%9 = phi.i b0 %", ""}, {"%9 = phi.d b0 %1 b1 %", ""}, {"call.n f %", ""}, {"call.n f %1 %", ""}, {"%9 = call.i @1 f %", " %1"},
	{"out %", ""}, {"%9 = reloc.p %", " 1"}, {"mark %", ""}, {"if %", " b0 b1"}, {"ret %", ""},
}
var labelPlaces = [][2]string{
	{"%9 = phi.i b", " %1"}, {"%9 = phi.p b0 %1 b", " %2"}, {"%9 = phi.d b0 %1 b2 %2 b", " %2"}, {"br b", ""}, {"if %1 b", " b0"}, {"if %1 b0 b", ""},
}

// noNumbers is words' ends that are no numbers.
var noNumbers = []string{"", "x", "-", "-0", "00", "01", "--1", "1-", "1x", "1.0", "0x1", "%1", "@1", "b1", "1_0", "-01"}

// inPlace holds what is answered for an instruction with a word in a place: how much of the word stands ahead of the number is told by back.
func inPlace(t *testing.T, ahead, number, behind string, back int, code api.Code) {
	t.Helper()
	begin := "func f() n { b0: "
	text := begin + ahead + number + behind + " }"
	if code == api.OK {
		mustRead(t, text)
		return
	}
	mustFail(t, text, code, len(begin+ahead)-back)
}

// Promises 6.2, 6.3: the least and the greatest number of each place, the ones beside these, and what is no number.
func TestNumbers(t *testing.T) {
	for _, c := range places {
		back := 0
		if strings.HasSuffix(c.ahead, "@") {
			back = 1
		}
		for _, n := range []int{0, 1, c.most - 1, c.most} {
			if x := one(t, c.ahead+strconv.Itoa(n)+c.behind); x.N != int64(n) {
				t.Errorf("%q with %d: N is %d", c.ahead, n, x.N)
			}
		}
		for _, n := range []string{"-1", "-2", strconv.Itoa(c.most + 1), "4294967296", "9223372036854775807", "9223372036854775808", "-9223372036854775809", "99999999999999999999999"} {
			inPlace(t, c.ahead, n, c.behind, back, c.beyond)
		}
		for _, n := range noNumbers {
			if n != "" || back > 0 {
				inPlace(t, c.ahead, n, c.behind, back, c.no)
			}
		}
	}
	for _, n := range []string{"9223372036854775808", "-9223372036854775809", "99999999999999999999999"} {
		inPlace(t, "%9 = const ", n, "", 0, api.ErrRange)
	}
	for _, n := range noNumbers[1:] {
		inPlace(t, "%9 = const ", n, "", 0, api.ErrNumber)
	}
}

// Promises 6.2, 6.3: values and labels, the least, the greatest, and what is none.
func TestValuesAndLabels(t *testing.T) {
	beyond := []string{"-1", "4294967296", "9223372036854775807", "9223372036854775808", "18446744073709551616"}
	for _, c := range valuePlaces {
		for _, n := range []string{"0", "1", "1048575", "1048576"} {
			inPlace(t, c[0], n, c[1], 1, api.OK)
		}
		for _, n := range append(append(beyond, "1048577"), noNumbers...) {
			inPlace(t, c[0], n, c[1], 1, api.ErrValue)
		}
	}
	for _, c := range labelPlaces {
		for _, n := range []string{"0", "1", "254", "255"} {
			inPlace(t, c[0], n, c[1], 1, api.OK)
		}
		for _, n := range append(append(beyond, "256"), noNumbers...) {
			inPlace(t, c[0], n, c[1], 1, api.ErrLabel)
		}
	}
	for _, marked := range []string{"br ^%1", "br ^0", "br ^B0", "br ^}", "br ^ret", "br ^a0", "if %1 ^0 b1", "if %1 b1 ^%1", "%9 = phi.i ^%1 b0", "%9 = phi.i ^br %1", "%9 = phi.i ^0 %1", "%9 = phi.p b0 %1 ^brx %2", "%9 = phi.p b0 %1 ^b", "%9 = phi.p b0 %1 ^bb0"} {
		mustFailMarked(t, "func f() n { b0: "+marked+" }", api.ErrLabel)
	}
	for _, marked := range []string{"out ^1", "out ^b0", "out ^}", "out ^x", "%9 = add %1 ^2", "%9 = add ^b1 %2", "ret ^%x", "call.n f ^%", "call.n f %1 ^%x", "if ^b0 b0 b0", "%9 = phi.i b0 ^b1", "%9 = phi.i b0 %1 b0 ^}", "%9 = phi.i b0 %1 b1 ^= const 1", "%9 = phi.i b0 ^br b0", "mark ^@1", "put.i %1 ^ret"} {
		mustFailMarked(t, "func f() n { b0: "+marked+" }", api.ErrValue)
	}
}

// reads is the instructions of one block of a text, without places.
func reads(t *testing.T, text string) []api.Instr {
	t.Helper()
	p := nowhere(mustRead(t, "func f() n { b0: "+text+" }"))
	return p.Funcs[0].Blocks[0]
}

// Promise 6.3: a phi's pairs go on as long as labels stand there, up to a branch, another instruction, or the next block.
func TestPhi(t *testing.T) {
	phi := func(pairs int) api.Instr {
		x := api.Instr{Op: api.OPhi, Type: api.TInt, Id: 1}
		for i := range pairs {
			x.To, x.Args = append(x.To, i), append(x.Args, 10+i)
		}
		return x
	}
	text := "%1 = phi.i"
	for pairs := 1; pairs <= 200; pairs++ {
		text += " b" + strconv.Itoa(pairs-1) + " %" + strconv.Itoa(9+pairs)
		for behind, want := range map[string][]api.Instr{
			"":              {phi(pairs)},
			"br b7":         {phi(pairs), {Op: api.OBr, Id: -1, To: []int{7}}},
			"ret":           {phi(pairs), {Op: api.ORet, Id: -1}},
			"ret %5":        {phi(pairs), {Op: api.ORet, Id: -1, Args: []int{5}}},
			"%5 = nil":      {phi(pairs), {Op: api.ONil, Id: 5}},
			text + " br b1": {phi(pairs), phi(pairs), {Op: api.OBr, Id: -1, To: []int{1}}},
		} {
			if got := reads(t, text+" "+behind); !reflect.DeepEqual(got, want) {
				t.Fatalf("%d pairs and %q: %v", pairs, behind, got)
			}
		}
		p := mustRead(t, "func f() n { b0: "+text+" b1: br b0 b2: }")
		if got := p.Funcs[0].Blocks; len(got) != 3 || len(got[0]) != 1 || len(got[0][0].To) != pairs || len(got[1]) != 1 || got[1][0].Op != api.OBr {
			t.Fatalf("%d pairs and a block behind them: %v", pairs, got)
		}
	}
	for _, c := range []struct {
		marked string
		code   api.Code
	}{
		{"%1 = phi.i b0 ^}", api.ErrValue},
		{"%1 = phi.i b0 %1 b1 ^}", api.ErrValue},
		{"%1 = phi.i b0 %1 ^%2 }", api.ErrWord},
		{"%1 = phi.i b0 %1 ^a1 %2 }", api.ErrWord},
		{"%1 = phi.i b0 %1 ^br0 %2 }", api.ErrLabel},
		{"%1 = phi.i b0 %1 br ^%2 }", api.ErrLabel},
		{"%1 = phi.i b0 %1 ^bx: ret }", api.ErrLabel},
	} {
		mustFailMarked(t, "func f() n { b0: "+c.marked, c.code)
	}
	mustFailMarked(t, "func f() n { b0: %1 = phi.i ^}", api.ErrLabel)
	// The first pair is read whatever stands behind its label.
	mustFailMarked(t, "func f() n { b0: %1 = phi.i b1 ^: ret }", api.ErrValue)
	mustFailMarked(t, "func f() n { b0: %1 = phi.i ^br : ret }", api.ErrLabel)
}

// Promise 6.3: a call and a ret take values up to a word that is none, or that has = behind it.
func TestCallAndRet(t *testing.T) {
	list := func(n ...int) []int { return n }
	call := func(args ...int) api.Instr { return api.Instr{Op: api.OCall, Id: -1, Name: "f", Args: args} }
	ret := func(args ...int) api.Instr { return api.Instr{Op: api.ORet, Id: -1, Args: args} }
	num := api.Instr{Op: api.OConst, Id: 5, N: 6}
	for text, want := range map[string][]api.Instr{
		"call.n f":                                 {call()},
		"call.n f %1":                              {call(1)},
		"call.n f %1 %2 ret":                       {call(1, 2), ret()},
		"call.n f %5 = const 6":                    {call(), num},
		"call.n f %1 %5 = const 6":                 {call(1), num},
		"call.n f %5 %5 = const 6 ret %5":          {call(5), num, ret(5)},
		"call.n f call.n f %1":                     {call(), call(1)},
		"%5 = const 6 call.n f %5 %5 %5 = const 6": {num, call(5, 5), num},
		"ret":                              {ret()},
		"ret %1":                           {ret(1)},
		"ret ret":                          {ret(), ret()},
		"ret %1 ret %2":                    {ret(1), ret(2)},
		"ret %5 = const 6":                 {ret(), num},
		"ret %1 %5 = const 6":              {ret(1), num},
		"%5 = const 6 ret %5 %5 = const 6": {num, ret(5), num},
		"ret call.n f %1":                  {ret(), call(1)},
		"%7 = call.p @3 g %1 %5 = const 6": {{Op: api.OCall, Type: api.TPtr, Id: 7, N: 3, Name: "g", Args: list(1)}, num},
		"%7 = call.i g %7 = call.i g":      {{Op: api.OCall, Type: api.TInt, Id: 7, Name: "g"}, {Op: api.OCall, Type: api.TInt, Id: 7, Name: "g"}},
	} {
		if got := reads(t, text); !reflect.DeepEqual(got, want) {
			t.Errorf("%q: %v, want %v", text, got, want)
		}
	}
	for _, c := range []struct {
		marked string
		code   api.Code
	}{
		{"call.n ^}", api.ErrName},
		{"call.n ^%1 }", api.ErrName},
		{"call.n ^F }", api.ErrName},
		{"call.n ^f.x }", api.ErrName},
		{"call.n ^5 }", api.ErrName},
		{"call.n @5 ^}", api.ErrName},
		{"call.n @5 ^@5 f }", api.ErrName},
		{"call.n f ^@5 }", api.ErrWord},
		{"call.n ^@ 5 f }", api.ErrNumber},
		{"call.n ^@f }", api.ErrNumber},
		{"call.n ^@@5 f }", api.ErrNumber},
		{"call.n f ^g }", api.ErrWord},
		{"call.n f ^b0 }", api.ErrWord},
		{"call.n f %1 ^: }", api.ErrWord},
		{"call.n ^" + strings.Repeat("f", api.MaxName+1) + " }", api.ErrName},
		{"call.n f ^%1x }", api.ErrValue},
		{"call.n f ^%1x = const 1 }", api.ErrValue},
		{"ret ^%1x }", api.ErrValue},
		{"ret ^%1x = const 1 }", api.ErrValue},
		{"ret ^5 }", api.ErrWord},
		{"ret ^b0 }", api.ErrWord},
		{"ret ^@1 }", api.ErrWord},
	} {
		mustFailMarked(t, "func f() n { b0: "+c.marked, c.code)
	}
	name := strings.Repeat("f", api.MaxName)
	if x := one(t, "call.n "+name); x.Name != name {
		t.Errorf("a call of the name %q, want %q", x.Name, name)
	}
}

// Promise 6.3: the letters of a shape, and what is none.
func TestShapes(t *testing.T) {
	for _, s := range []string{".", "i", "p", "ii", "ip", "pi", "pp", "iiiiiiiiiiiiiiii", "pppppppppppppppp", "ipipipipipipipip"} {
		if x := one(t, "%1 = new "+s); x.Name != s {
			t.Errorf("new %s: Name is %q", s, x.Name)
		}
	}
	for _, s := range []string{"..", "d", "n", "I", "i.", ".i", "x", "ipx", "0", "3", "%1", "iiiiiiiiiiiiiiiii", "}", "=", "ret", "@", "-"} {
		mustFailMarked(t, "func f() n { b0: %1 = new ^"+s+" }", api.ErrShape)
	}
	mustFailMarked(t, "func f() n { b0: %1 = new^", api.ErrShape)
}

// Promise 6.2: each function and each instruction tells where its first word stands.
func TestPlaces(t *testing.T) {
	text := "# one\n  func a(i) n {\n b0: \n  ret\n%1 = const 5 call.n a\n\n b1:out %1}func b() i{b0:%2=nil ret %2}"
	p := mustRead(t, text)
	wantFuncs := []int{strings.Index(text, "func a"), strings.Index(text, "func b")}
	wantInstrs := [][][]int{
		{{strings.Index(text, "ret"), strings.Index(text, "%1 ="), strings.Index(text, "call.n")}, {strings.Index(text, "out")}},
		{{strings.Index(text, "%2="), strings.Index(text, "ret %2")}},
	}
	for i, f := range p.Funcs {
		if f.At != wantFuncs[i] {
			t.Errorf("function %d stands at %d, want %d", i, f.At, wantFuncs[i])
		}
		for j, b := range f.Blocks {
			for k, x := range b {
				if x.At != wantInstrs[i][j][k] {
					t.Errorf("instruction %d %d %d stands at %d, want %d", i, j, k, x.At, wantInstrs[i][j][k])
				}
			}
		}
	}
}

// maker makes programs, and their words, by chance that is the same each time.
type maker struct {
	*rand.Rand
	words []string
	heads []*int // where the place of what begins at a word is kept
	begin []int  // at which word
}

func (m *maker) word(w ...string) { m.words = append(m.words, w...) }

func (m *maker) head(at *int) {
	m.heads = append(m.heads, at)
	m.begin = append(m.begin, len(m.words))
}

// one of some numbers, the edges as often as all between.
func (m *maker) upTo(most int) int {
	switch m.Intn(4) {
	case 0:
		return 0
	case 1:
		return most
	}
	return m.Intn(most + 1)
}

func (m *maker) value(x *api.Instr) {
	v := m.upTo(api.MaxValue)
	x.Args = append(x.Args, v)
	m.word("%" + strconv.Itoa(v))
}

func (m *maker) label(x *api.Instr) {
	b := m.upTo(255)
	x.To = append(x.To, b)
	m.word("b" + strconv.Itoa(b))
}

func (m *maker) number(x *api.Instr, most int) {
	x.N = int64(m.upTo(most))
	m.word(strconv.FormatInt(x.N, 10))
}

func (m *maker) name() string {
	name := []string{"f", "main", "b0", "br", "ret", "i", "p", "n", "a_1", "zz9", "func", strings.Repeat("q", api.MaxName)}[m.Intn(12)]
	m.word(name)
	return name
}

// instr makes an instruction of an operation and a type, as promise 6.3 lists the operands.
func (m *maker) instr(op, kind int) api.Instr {
	x := api.Instr{Op: op, Type: kind, Id: -1}
	if ops.Makes(x) != api.TNone {
		x.Id = m.upTo(api.MaxValue)
		m.word("%"+strconv.Itoa(x.Id), "=")
	}
	m.word(ops.Word(x))
	switch op {
	case api.OConst:
		x.N = []int64{0, 1, -1, math.MinInt64, math.MaxInt64, m.Int63()}[m.Intn(6)]
		m.word(strconv.FormatInt(x.N, 10))
	case api.ONew:
		x.Name = []string{".", "i", "p", "ipip", "iiiiiiiiiiiiiiii"}[m.Intn(5)]
		m.word(x.Name)
	case api.OLoadI, api.OLoadP, api.OSlot:
		m.value(&x)
		m.number(&x, 15)
	case api.OStoreI, api.OStoreP:
		m.value(&x)
		m.number(&x, 15)
		m.value(&x)
	case api.OPhi:
		for range 1 + m.Intn(4) {
			m.label(&x)
			m.value(&x)
		}
	case api.OCall:
		if m.Intn(2) == 0 {
			x.N = int64(m.upTo(api.MaxValue))
			m.word("@" + strconv.FormatInt(x.N, 10))
		}
		x.Name = m.name()
		for range m.Intn(4) {
			m.value(&x)
		}
	case api.OPoll:
		m.number(&x, api.MaxValue)
	case api.OReloc:
		m.value(&x)
		m.number(&x, api.MaxValue)
	case api.OBr:
		m.label(&x)
	case api.OIf:
		m.value(&x)
		m.label(&x)
		m.label(&x)
	case api.ORet:
		if m.Intn(2) == 0 {
			m.value(&x)
		}
	case api.OFail:
		m.number(&x, 255)
	case api.OAdd, api.OSub, api.OMul, api.ODiv, api.OLt, api.OEq, api.OSame, api.OPutI, api.OPutP:
		m.value(&x)
		m.value(&x)
	case api.OGetI, api.OGetP, api.OOut, api.OMark:
		m.value(&x)
	}
	return x
}

// program makes a program; the places are told when the words are laid.
func (m *maker) program(funcs, most int) *api.Prog {
	p := &api.Prog{Funcs: make([]api.Func, funcs)}
	for i := range p.Funcs {
		f := &p.Funcs[i]
		m.head(&f.At)
		m.word("func")
		f.Name = m.name()
		m.word("(")
		for range m.Intn(api.MaxParams + 1) {
			k := m.Intn(2)
			f.Params = append(f.Params, []int{api.TInt, api.TPtr}[k])
			m.word([]string{"i", "p"}[k])
		}
		k := m.Intn(3)
		f.Ret = []int{api.TNone, api.TInt, api.TPtr}[k]
		m.word(")", []string{"n", "i", "p"}[k], "{")
		for b := range m.Intn(5) {
			m.word("b"+strconv.Itoa(b), ":")
			f.Blocks = append(f.Blocks, m.block(m.Intn(most+1)))
		}
		m.word("}")
	}
	return p
}

// block makes a block of so many instructions.
func (m *maker) block(count int) []api.Instr {
	if count == 0 {
		return nil
	}
	block := make([]api.Instr, count)
	for i := range block {
		op := 1 + m.Intn(api.OFail)
		kind := m.Intn(4)
		for !ops.May(op, kind) {
			kind = m.Intn(4)
		}
		m.head(&block[i].At)
		at := len(m.heads) - 1
		block[i] = m.instr(op, kind)
		m.heads[at] = &block[i].At
	}
	return block
}

// text lays the words with blanks and notes by chance between them, and keeps the places.
func (m *maker) text() string {
	var text strings.Builder
	between := []string{" ", "  ", "\n", "\t", "\r\n", " # a note: } = %1 func\n", "#\n", "\n\n  "}
	var at []int
	for _, w := range m.words {
		if strings.Contains("(){}=:", w) && m.Intn(2) == 0 || text.Len() > 0 && strings.HasSuffix(text.String(), "(") {
			at = append(at, text.Len())
		} else {
			text.WriteString(between[m.Intn(len(between))])
			at = append(at, text.Len())
		}
		text.WriteString(w)
	}
	for i, head := range m.heads {
		*head = at[m.begin[i]]
	}
	return text.String() + []string{"", "\n", " # end", "#"}[m.Intn(4)]
}

// Promises 6.2 to 6.4: programs of all kinds are read as what they are, with any blanks and notes between the words.
func TestThereAndBack(t *testing.T) {
	for seed := range 1500 {
		m := &maker{Rand: rand.New(rand.NewSource(int64(seed)))}
		p := m.program(m.Intn(4), 6)
		for range 3 {
			text := m.text()
			got := mustRead(t, text)
			if want := clean(*p); !reflect.DeepEqual(got, want) {
				t.Fatalf("%q is\n%v, want\n%v", text, got, want)
			}
		}
	}
}

// Promise 6.4: the same words with other blanks and notes between them are the same program, but for the places; the same mistakes are met at the same words.
func TestBlanksAndNotes(t *testing.T) {
	plain := "func main ( i p ) p { b0 : %2 = const 5 %3 = phi.p b0 %1 b1 %3 br b1 b1 : ret %3 } func f ( ) n { }"
	want := nowhere(mustRead(t, plain))
	for _, between := range []string{"  ", "\n", "\t", "\r", "\r\n", "#\n", " # func f ( ) n { } ? \n", "\n\n # é\n\t"} {
		text := strings.ReplaceAll(plain, " ", between)
		if got := nowhere(mustRead(t, text)); !reflect.DeepEqual(got, want) {
			t.Errorf("with %q between the words: %v, want %v", between, got, want)
		}
		mustFailMarked(t, strings.ReplaceAll("func main ( i p ) p { b0 : %2 = add %1 ^5 }", " ", between), api.ErrValue)
	}
	if got := nowhere(mustRead(t, "func main(i p)p{b0:%2=const 5 %3=phi.p b0 %1 b1 %3 br b1 b1:ret %3}func f()n{}")); !reflect.DeepEqual(got, want) {
		t.Errorf("with few blanks: %v, want %v", got, want)
	}
	// Words that touch are one.
	mustFailMarked(t, "func main() n { b0: %2 = const ^5%3 = nil }", api.ErrNumber)
}

// Promises 6.1, 6.2: two programs' texts one behind the other are the functions of both.
func TestTwoTexts(t *testing.T) {
	for seed := range 200 {
		m := &maker{Rand: rand.New(rand.NewSource(int64(seed)))}
		a := m.program(m.Intn(3), 4)
		first := m.text() + "\n"
		n := &maker{Rand: m.Rand}
		b := n.program(n.Intn(3), 4)
		second := n.text()
		want := clean(api.Prog{Funcs: append(append([]api.Func(nil), a.Funcs...), b.Funcs...)})
		for i := range want.Funcs[len(a.Funcs):] {
			f := &want.Funcs[len(a.Funcs)+i]
			f.At += len(first)
			for _, block := range f.Blocks {
				for k := range block {
					block[k].At += len(first)
				}
			}
		}
		if got := mustRead(t, first+second); !reflect.DeepEqual(got, want) {
			t.Fatalf("%q: %v, want %v", first+second, got, want)
		}
	}
	mustFailMarked(t, "func f() n { b0: ret } func g() n { b0: ret ^x } func h() n { ", api.ErrWord)
}

// Promises 6.1, 6.4: long texts, up to the greatest one, are read to their ends.
func TestLongTexts(t *testing.T) {
	begin := "func f() n { b0: "
	args := (api.MaxText - len(begin) - len("call.n f }")) / 3
	text := begin + "call.n f " + strings.Repeat("%1 ", args)
	text += strings.Repeat(" ", api.MaxText-len(text)-1) + "}"
	if p := mustRead(t, text); len(text) != api.MaxText || len(p.Funcs[0].Blocks[0][0].Args) != args {
		t.Errorf("a call with %d values in %d bytes: %d are read", args, len(text), len(p.Funcs[0].Blocks[0][0].Args))
	}
	mustFail(t, text[:len(text)-1]+" ", api.ErrWord, api.MaxText)
	mustFail(t, text[:len(text)-1]+"x", api.ErrWord, api.MaxText-1)
	mustFail(t, text+" ", api.ErrLimit, api.MaxText)

	pairs := (api.MaxText - len(begin) - len("%1 = phi.i }")) / 6
	text = begin + "%1 = phi.i " + strings.Repeat("b0 %1 ", pairs) + "}"
	if p := mustRead(t, text); len(p.Funcs[0].Blocks[0][0].To) != pairs || len(p.Funcs[0].Blocks[0][0].Args) != pairs {
		t.Errorf("a phi with %d pairs: %d are read", pairs, len(p.Funcs[0].Blocks[0][0].To))
	}

	m := &maker{Rand: rand.New(rand.NewSource(7))}
	p := m.program(api.MaxFuncs, 30)
	text = m.text()
	if len(text) < api.MaxText/4 || len(text) > api.MaxText {
		t.Fatalf("a text of %d bytes is not long, or too long", len(text))
	}
	if got := mustRead(t, text); !reflect.DeepEqual(got, clean(*p)) {
		t.Errorf("a text of %d bytes is read as something else", len(text))
	}
}

// printed is the words of a program, by the grammar's lines.
func printed(p api.Prog) []string {
	num := func(n int) string { return strconv.Itoa(n) }
	var words []string
	add := func(w ...string) { words = append(words, w...) }
	for _, f := range p.Funcs {
		add("func", f.Name, "(")
		for _, k := range f.Params {
			add(ops.Letter(k))
		}
		add(")", ops.Letter(f.Ret), "{")
		for i, b := range f.Blocks {
			add("b"+num(i), ":")
			for _, x := range b {
				if x.Id >= 0 {
					add("%"+num(x.Id), "=")
				}
				add(ops.Word(x))
				n := strconv.FormatInt(x.N, 10)
				switch x.Op {
				case api.OConst, api.OPoll, api.OFail:
					add(n)
				case api.OPhi:
					for j := range x.To {
						add("b"+num(x.To[j]), "%"+num(x.Args[j]))
					}
					continue
				case api.OCall:
					add("@"+n, x.Name)
				case api.ONew:
					add(x.Name)
				}
				for j, a := range x.Args {
					add("%" + num(a))
					switch x.Op {
					case api.OLoadI, api.OLoadP, api.OSlot, api.OStoreI, api.OStoreP, api.OReloc:
						if j == 0 {
							add(n)
						}
					}
				}
				for _, b := range x.To {
					add("b" + num(b))
				}
			}
		}
		add("}")
	}
	return words
}

// withPoints is words in which each call tells the number of its safepoint.
func withPoints(words []api.Token) []string {
	var out []string
	for i, w := range words {
		out = append(out, w.Text)
		if op, _ := ops.Find(w.Text); op == api.OCall && (i == 0 || words[i-1].Text != "func" && !strings.HasPrefix(words[i-1].Text, "@")) && i+1 < len(words) && !strings.HasPrefix(words[i+1].Text, "@") {
			out = append(out, "@0")
		}
	}
	return out
}

// checkLimits holds that what is read keeps the limits.
func checkLimits(t *testing.T, p api.Prog) {
	t.Helper()
	instrs := 0
	within := func(n, least, most int, what string) {
		if n < least || n > most {
			t.Fatalf("%s: %d is not from %d to %d", what, n, least, most)
		}
	}
	within(len(p.Funcs), 0, api.MaxFuncs, "functions")
	for _, f := range p.Funcs {
		within(len(f.Params), 0, api.MaxParams, "parameters")
		within(len(f.Blocks), 0, api.MaxBlocks, "blocks")
		within(f.Ret, api.TNone, api.TPtr, "what is answered")
		for _, k := range f.Params {
			within(k, api.TInt, api.TPtr, "parameter")
		}
		if !token.Name(f.Name) {
			t.Fatalf("%q is no name", f.Name)
		}
		for _, b := range f.Blocks {
			instrs += len(b)
			for _, x := range b {
				within(x.Op, api.OConst, api.OFail, "operation")
				within(x.Id, -1, api.MaxValue, "value")
				for _, a := range x.Args {
					within(a, 0, api.MaxValue, "value taken")
				}
				for _, b := range x.To {
					within(b, 0, 255, "label")
				}
			}
		}
	}
	within(instrs, 0, api.MaxInstrs, "instructions")
}

// Promises 6.1, 6.4: words in any order are refused at one of them, or behind the last one, with no program; or what is read is these words.
func TestAnyWords(t *testing.T) {
	some := strings.Fields("func main ( ) { } = : i p n d b0 b1 b255 b256 %0 %1 %1048577 0 1 15 16 @1 @x ret br b0 : if %1 b0 b1 add out phi.i call.n call.i const new ip . store.i poll fail nil x } func f ( ) n {")
	good, bad := 0, 0
	for seed := range 20000 {
		m := &maker{Rand: rand.New(rand.NewSource(int64(seed)))}
		m.program(m.Intn(3), 3)
		for range m.Intn(3) {
			at := m.Intn(len(m.words) + 1)
			with := some[m.Intn(len(some))]
			rest := append([]string(nil), m.words[at:]...)
			if m.Intn(2) == 0 && len(rest) > 0 {
				rest = rest[1:]
			}
			if m.Intn(3) > 0 {
				rest = append([]string{with}, rest...)
			}
			m.words = append(m.words[:at:at], rest...)
		}
		m.heads = nil
		text := m.text()
		p, e := Text(text)
		words, _ := token.Split(text)
		if e.Code == api.OK {
			good++
			checkLimits(t, p)
			if got, want := printed(p), withPoints(words); !reflect.DeepEqual(got, want) || e.At != 0 {
				t.Fatalf("%q is read as %q, want %q", text, got, want)
			}
			continue
		}
		bad++
		if len(p.Funcs) != 0 {
			t.Fatalf("%q: %v and a program", text, e)
		}
		at := 0
		for at < len(words) && words[at].At != e.At {
			at++
		}
		if at == len(words) && e.At != len(text) {
			t.Fatalf("%q: %v, where no word begins", text, e)
		}
		// What stands behind the word, and the one behind it, is not looked at.
		if at+2 < len(words) {
			mustFail(t, text[:words[at+2].At], e.Code, e.At)
			mustFail(t, text[:words[at+2].At]+" } A ( = :", e.Code, e.At)
		}
	}
	if good < 1000 || bad < 1000 {
		t.Errorf("%d texts are programs, %d are none: too few of one of them", good, bad)
	}
}

// Rule R3, promise P6: what is answered shares no memory, and is the same each time.
func TestOwnMemory(t *testing.T) {
	text := "func a(i p i) n { b0: call.n f %1 %2 %3 ret b1: %4 = phi.i b0 %1 b1 %2 b2 %3 ret } func b(p) i { b0: ret %0 }"
	first := mustRead(t, text)
	got, _ := Text(text)
	for i := range got.Funcs {
		f := &got.Funcs[i]
		f.Params = append(f.Params, -7)
		for j := range f.Blocks {
			for k := range f.Blocks[j] {
				x := &f.Blocks[j][k]
				x.Args = append(x.Args, -7)
				x.To = append(x.To, -7)
			}
			f.Blocks[j] = append(f.Blocks[j], api.Instr{Op: -7})
		}
	}
	for i := range got.Funcs {
		f := &got.Funcs[i]
		f.Params = f.Params[:len(f.Params)-1]
		for j := range f.Blocks {
			f.Blocks[j] = f.Blocks[j][:len(f.Blocks[j])-1]
			for k := range f.Blocks[j] {
				x := &f.Blocks[j][k]
				x.Args = x.Args[:len(x.Args)-1]
				x.To = x.To[:len(x.To)-1]
			}
		}
	}
	if !reflect.DeepEqual(clean(got), first) {
		t.Errorf("lists of one answer share memory: %v, want %v", got, first)
	}
	for i := range got.Funcs {
		clear(got.Funcs[i].Params)
		for _, b := range got.Funcs[i].Blocks {
			for _, x := range b {
				clear(x.Args)
				clear(x.To)
			}
			clear(b)
		}
	}
	if again := mustRead(t, text); !reflect.DeepEqual(again, first) {
		t.Errorf("the second answer is %v, want %v", again, first)
	}
}
