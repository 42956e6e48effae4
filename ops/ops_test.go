package ops

import (
	"math"
	"slices"
	"strings"
	"testing"

	"turntable/api"
)

// words is the words of the operations 1 to 29, in their order, as the document lists them.
var words = strings.Split("const, add, sub, mul, div, lt, eq, nil, same, new, load.i, load.p, store.i, store.p, slot, get.i, get.p, put.i, put.p, phi, call, out, poll, reloc, mark, br, if, ret, fail", ", ")

// typedOnes is the operations whose instructions have a type.
var typedOnes = []int{api.OPhi, api.OCall, api.OReloc}

// noOps is numbers that are no operations.
var noOps = []int{0, 30, -1, -2, -29, 31, 32, 33, 64, 127, 128, 255, 256, 256 + api.OAdd, 1 << 16, 1<<16 + api.OCall, 1<<31 + api.OPhi,
	1 << 32, 1<<32 + api.OPhi, -1<<32 + api.ORet, math.MinInt64, math.MinInt64 + 1, math.MinInt64 + api.OAdd, math.MaxInt64, math.MaxInt64 - 1}

// noTypes is numbers that are no types.
var noTypes = []int{-1, -2, -3, 4, 5, 6, 7, 8, 105, 256, 256 + api.TInt, 1<<32 + api.TPtr, math.MinInt64, math.MinInt64 + api.TDer, math.MaxInt64}

// eachOp hands over all operations, and numbers that are none.
func eachOp(do func(op int)) {
	for op := -300; op <= 300; op++ {
		do(op)
	}
	for _, op := range noOps {
		do(op)
	}
}

// eachType hands over all types, and numbers that are none.
func eachType(do func(k int)) {
	for k := api.TNone; k <= api.TDer; k++ {
		do(k)
	}
	for _, k := range noTypes {
		do(k)
	}
}

// wantedWord is the word that an operation must have with a type.
func wantedWord(op, k int) string {
	if op < 1 || op > len(words) {
		return ""
	}
	word := words[op-1]
	if slices.Contains(typedOnes, op) {
		letter := map[int]string{api.TInt: "i", api.TPtr: "p", api.TDer: "d"}[k]
		if letter == "" {
			letter = "n"
		}
		return word + "." + letter
	}
	return word
}

// wantedMay is the types of which an operation may be.
func wantedMay(op int) []int {
	switch op {
	case api.OPhi:
		return []int{api.TInt, api.TPtr, api.TDer}
	case api.OCall:
		return []int{api.TNone, api.TInt, api.TPtr}
	case api.OReloc:
		return []int{api.TPtr, api.TDer}
	}
	return []int{api.TNone}
}

// Promise 5.1: the letter of each type, and of what is none.
func TestLetter(t *testing.T) {
	for k, want := range map[int]string{api.TNone: "n", api.TInt: "i", api.TPtr: "p", api.TDer: "d"} {
		if got := Letter(k); got != want {
			t.Errorf("Letter(%d) = %q, want %q", k, got, want)
		}
	}
	for _, k := range noTypes {
		if got := Letter(k); got != "n" {
			t.Errorf("Letter(%d) = %q, want n", k, got)
		}
	}
}

// Promise 5.1: the words as they are written.
func TestWordsByHand(t *testing.T) {
	if len(words) != 29 {
		t.Fatalf("%d words", len(words))
	}
	list := []struct {
		op, k int
		want  string
	}{
		{api.OConst, 0, "const"}, {api.OAdd, 0, "add"}, {api.OSub, 0, "sub"}, {api.OMul, 0, "mul"}, {api.ODiv, 0, "div"},
		{api.OLt, 0, "lt"}, {api.OEq, 0, "eq"}, {api.ONil, 0, "nil"}, {api.OSame, 0, "same"}, {api.ONew, 0, "new"},
		{api.OLoadI, 0, "load.i"}, {api.OLoadP, 0, "load.p"}, {api.OStoreI, 0, "store.i"}, {api.OStoreP, 0, "store.p"},
		{api.OSlot, 0, "slot"}, {api.OGetI, 0, "get.i"}, {api.OGetP, 0, "get.p"}, {api.OPutI, 0, "put.i"}, {api.OPutP, 0, "put.p"},
		{api.OPhi, api.TNone, "phi.n"}, {api.OPhi, api.TInt, "phi.i"}, {api.OPhi, api.TPtr, "phi.p"}, {api.OPhi, api.TDer, "phi.d"},
		{api.OCall, api.TNone, "call.n"}, {api.OCall, api.TInt, "call.i"}, {api.OCall, api.TPtr, "call.p"}, {api.OCall, api.TDer, "call.d"},
		{api.OReloc, api.TNone, "reloc.n"}, {api.OReloc, api.TInt, "reloc.i"}, {api.OReloc, api.TPtr, "reloc.p"}, {api.OReloc, api.TDer, "reloc.d"},
		{api.OPhi, -1, "phi.n"}, {api.OCall, 4, "call.n"}, {api.OReloc, 99, "reloc.n"},
		{api.OOut, 0, "out"}, {api.OPoll, 0, "poll"}, {api.OMark, 0, "mark"},
		{api.OBr, 0, "br"}, {api.OIf, 0, "if"}, {api.ORet, 0, "ret"}, {api.OFail, 0, "fail"},
		{0, api.TInt, ""}, {30, api.TPtr, ""}, {-1, api.TDer, ""}, {math.MinInt64, 0, ""}, {math.MaxInt64, 0, ""},
	}
	for _, x := range list {
		if got := Word(api.Instr{Op: x.op, Type: x.k}); got != x.want {
			t.Errorf("Word of %d with type %d = %q, want %q", x.op, x.k, got, x.want)
		}
	}
}

// Promise 5.1: the word of each number with each type, which no other field changes.
func TestWordOfAll(t *testing.T) {
	eachOp(func(op int) {
		eachType(func(k int) {
			want := wantedWord(op, k)
			if got := Word(api.Instr{Op: op, Type: k}); got != want {
				t.Errorf("Word of %d with type %d = %q, want %q", op, k, got, want)
			}
			full := api.Instr{Op: op, Id: 7, N: -5, Type: k, Args: []int{1, 2, 3}, To: []int{0, 1}, Name: "add", At: 11}
			if got := Word(full); got != want {
				t.Errorf("Word of a full %d with type %d = %q, want %q", op, k, got, want)
			}
		})
	})
}

// Promise 5.2: what each operation, and each number that is none, may be of.
func TestMay(t *testing.T) {
	eachOp(func(op int) {
		eachType(func(k int) {
			want := slices.Contains(wantedMay(op), k)
			if got := May(op, k); got != want {
				t.Errorf("May(%d, %d) = %v, want %v", op, k, got, want)
			}
		})
	})
}

// Promise 5.2: each word is found again, with its operation and its type.
func TestFindAgain(t *testing.T) {
	found := 0
	for op := api.OConst; op <= api.OFail; op++ {
		for _, k := range wantedMay(op) {
			word := wantedWord(op, k)
			if gotOp, gotK := Find(word); gotOp != op || gotK != k {
				t.Errorf("Find(%q) = %d, %d, want %d, %d", word, gotOp, gotK, op, k)
			}
			found++
		}
	}
	if found != 34 {
		t.Errorf("%d words, want 34", found)
	}
}

// Promise 5.2: 0 and TNone of a word that is none.
func TestFindNone(t *testing.T) {
	list := []string{
		"", " ", ".", "..", ".i", ".n", "n", "i", "p", "d", "0", "1", "29", "%0", "@main", "move",
		"phi", "call", "reloc", "phi.", "call.", "reloc.", "load", "store", "get", "put", "load.", "store.", "get.", "put.",
		"phi.n", "call.d", "reloc.i", "reloc.n", "load.d", "load.n", "store.d", "store.n", "get.d", "get.n", "put.d", "put.n",
		"phi.x", "call.x", "reloc.x", "phi.ii", "phi.i.", "phi..i", "phi.i.i", "call.n.n", "reloc.p ", " reloc.p", "phi .i", "phi.\x00",
		"const.", "const.n", "const.i", "add.n", "add.i", "slot.d", "out.i", "poll.n", "mark.p", "br.n", "if.i", "ret.n", "ret.i", "fail.n", "new.p", "nil.p",
		"cons", "constt", "ad", "addd", "dd", "l", "ltt", "e", "eqq", "ni", "nill", "sam", "samee", "ne", "neww", "b", "brr", "iff", "f", "re", "rett", "fai", "faill",
		"ADD", "Add", "CONST", "PHI.I", "phi.I", "Phi.i", "LOAD.I", "load.I", "RET", "If",
		"\x00", "add\x00", "\x00add", "add\n", "\tadd", "\xff\xfe", "add\xff", "\xe2\x82", "\u00e4dd", "if\u200e", "\u0440hi.i", "\u65e5\u672c",
	}
	for _, word := range list {
		if op, k := Find(word); op != 0 || k != api.TNone {
			t.Errorf("Find(%q) = %d, %d, want 0, 0", word, op, k)
		}
	}
	for _, part := range []string{"a", "add", "phi.i", "\x00", "\xff", " "} {
		long := strings.Repeat(part, api.MaxText)
		if op, k := Find(long); op != 0 || k != api.TNone {
			t.Errorf("Find of %q many times = %d, %d, want 0, 0", part, op, k)
		}
	}
}

// isWord tells whether a text is the word of an operation with a type of which it may be.
func isWord(text string) bool {
	for op := api.OConst; op <= api.OFail; op++ {
		for _, k := range wantedMay(op) {
			if wantedWord(op, k) == text {
				return true
			}
		}
	}
	return false
}

// Promise 5.2: each word with a byte put in, left out, or another one in its place is found just if it is a word, too.
func TestFindNearWords(t *testing.T) {
	try := func(text string) {
		op, k := Find(text)
		switch {
		case !isWord(text) && (op != 0 || k != api.TNone):
			t.Errorf("Find(%q) = %d, %d, want 0, 0", text, op, k)
		case isWord(text) && (wantedWord(op, k) != text || !slices.Contains(wantedMay(op), k)):
			t.Errorf("Find(%q) = %d, %d", text, op, k)
		}
	}
	for op := api.OConst; op <= api.OFail; op++ {
		for k := api.TNone; k <= api.TDer; k++ {
			word := wantedWord(op, k)
			for at := 0; at <= len(word); at++ {
				for b := 0; b < 256; b++ {
					try(word[:at] + string([]byte{byte(b)}) + word[at:])
					if at < len(word) {
						try(word[:at] + string([]byte{byte(b)}) + word[at+1:])
					}
				}
				try(word[:at])
				try(word[at:])
				if at < len(word) {
					try(word[:at] + word[at+1:])
				}
			}
			try(strings.ToUpper(word))
		}
	}
}

// wantedTakes is the types that operations take, by their numbers; what does not stand here takes none.
func wantedTakes() map[int][]int {
	return map[int][]int{
		api.OAdd: {api.TInt, api.TInt}, api.OSub: {api.TInt, api.TInt}, api.OMul: {api.TInt, api.TInt},
		api.ODiv: {api.TInt, api.TInt}, api.OLt: {api.TInt, api.TInt}, api.OEq: {api.TInt, api.TInt},
		api.OSame:  {api.TPtr, api.TPtr},
		api.OLoadI: {api.TPtr}, api.OLoadP: {api.TPtr}, api.OSlot: {api.TPtr}, api.OMark: {api.TPtr},
		api.OStoreI: {api.TPtr, api.TInt}, api.OStoreP: {api.TPtr, api.TPtr},
		api.OGetI: {api.TDer}, api.OGetP: {api.TDer},
		api.OPutI: {api.TDer, api.TInt}, api.OPutP: {api.TDer, api.TPtr},
		api.OOut: {api.TInt}, api.OIf: {api.TInt},
	}
}

// Promise 5.3: the types that each operation takes.
func TestTakes(t *testing.T) {
	eachOp(func(op int) {
		if got, want := Takes(op), wantedTakes()[op]; !slices.Equal(got, want) {
			t.Errorf("Takes(%d) = %v, want %v", op, got, want)
		}
	})
}

// Promise 5.3, R3, P6: who writes into what Takes gave, also behind its length, changes nothing that it gives the next time, or gave before.
func TestTakesIsNew(t *testing.T) {
	eachOp(func(op int) {
		before, other := Takes(op), Takes(op)
		for i := range other {
			other[i] = 77
		}
		_ = append(other[:0], 55, 66, 77, 88)
		_ = append(other, 99)
		spare := other[:cap(other)]
		for i := range spare {
			spare[i] = 44
		}
		want := wantedTakes()[op]
		if got := Takes(op); !slices.Equal(got, want) || !slices.Equal(before, want) {
			t.Errorf("Takes(%d) = %v, and before %v, want %v", op, got, before, want)
		}
	})
}

// wantedMakes is the type that an instruction must make.
func wantedMakes(op, k int) int {
	switch op {
	case api.OPhi, api.OCall, api.OReloc:
		return k
	case api.OConst, api.OAdd, api.OSub, api.OMul, api.ODiv, api.OLt, api.OEq, api.OSame, api.OLoadI, api.OGetI:
		return api.TInt
	case api.ONil, api.ONew, api.OLoadP, api.OGetP:
		return api.TPtr
	case api.OSlot:
		return api.TDer
	}
	return api.TNone
}

// Promise 5.3: the type that each operation makes, with each type, which no other field changes.
func TestMakes(t *testing.T) {
	eachOp(func(op int) {
		eachType(func(k int) {
			want := wantedMakes(op, k)
			if got := Makes(api.Instr{Op: op, Type: k}); got != want {
				t.Errorf("Makes of %d with type %d = %d, want %d", op, k, got, want)
			}
			full := api.Instr{Op: op, Id: 3, N: 9, Type: k, Args: []int{4, 5}, To: []int{1}, Name: "phi", At: 2}
			if got := Makes(full); got != want {
				t.Errorf("Makes of a full %d with type %d = %d, want %d", op, k, got, want)
			}
		})
	})
}

// question is one of the seven of promise 5.4, and the operations of which the answer is yes.
type question struct {
	name string
	ask  func(op int) bool
	yes  []int
}

func questions() []question {
	return []question{
		{"Traps", Traps, []int{api.ODiv, api.OLoadI, api.OLoadP, api.OStoreI, api.OStoreP, api.OSlot, api.OGetI, api.OGetP, api.OPutI, api.OPutP, api.OCall, api.OFail}},
		{"Reads", Reads, []int{api.OLoadI, api.OLoadP, api.OGetI, api.OGetP, api.OCall}},
		{"Writes", Writes, []int{api.OStoreI, api.OStoreP, api.OPutI, api.OPutP, api.OCall}},
		{"Ends", Ends, []int{api.OBr, api.OIf, api.ORet, api.OFail}},
		{"Seen", Seen, []int{api.OStoreI, api.OStoreP, api.OPutI, api.OPutP, api.OCall, api.OBr, api.OIf, api.ORet, api.OFail, api.OOut, api.OPoll, api.OMark}},
		{"Pure", Pure, []int{api.OConst, api.OAdd, api.OSub, api.OMul, api.OLt, api.OEq, api.ONil, api.OSame}},
		{"Safe", Safe, []int{api.OPoll, api.OCall}},
	}
}

// Promise 5.4: each of the seven questions for every operation, and for numbers that are none.
func TestQuestions(t *testing.T) {
	for _, q := range questions() {
		eachOp(func(op int) {
			if got, want := q.ask(op), slices.Contains(q.yes, op); got != want {
				t.Errorf("%s(%d) = %v, want %v", q.name, op, got, want)
			}
		})
	}
}

// Promise 5.5: what is pure does nothing beside, and makes a value; there are eight of them.
func TestPureDoesNothingBeside(t *testing.T) {
	many := 0
	eachOp(func(op int) {
		if !Pure(op) {
			return
		}
		many++
		if Traps(op) || Reads(op) || Writes(op) || Seen(op) || Ends(op) || Safe(op) {
			t.Errorf("%d is pure, and does something beside", op)
		}
		if Makes(api.Instr{Op: op}) == api.TNone {
			t.Errorf("%d is pure, and makes nothing", op)
		}
	})
	if many != 8 {
		t.Errorf("%d operations are pure, want 8", many)
	}
}

// The examples of the chapter: phi.d is OPhi of TDer; reloc.i is nothing; put.p takes a TDer and a TPtr.
func TestExamples(t *testing.T) {
	if op, k := Find("phi.d"); op != api.OPhi || k != api.TDer {
		t.Errorf("Find(phi.d) = %d, %d", op, k)
	}
	if op, k := Find("reloc.i"); op != 0 || k != api.TNone {
		t.Errorf("Find(reloc.i) = %d, %d", op, k)
	}
	if got := Takes(api.OPutP); !slices.Equal(got, []int{api.TDer, api.TPtr}) {
		t.Errorf("Takes(OPutP) = %v", got)
	}
}
