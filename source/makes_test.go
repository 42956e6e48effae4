package source

import (
	"math"
	"math/big"
	"strconv"
	"testing"

	"turntable/api"
)

// edges is numbers at which operations may go wrong.
var edges = []int64{math.MinInt64, math.MinInt64 + 1, -1 << 32, -7, -2, -1, 0, 1, 2, 3, 10, 1 << 31, 1 << 32, 3037000500, math.MaxInt64 - 1, math.MaxInt64}

// Promise 13.3: const makes its N, from the least one to the greatest one.
func TestConst(t *testing.T) {
	for _, n := range edges {
		must(t, "func main() i { b0: %1 = const "+strconv.FormatInt(n, 10)+" out %1 ret %1 }", nil, exits(n, 3, 0, n))
	}
}

// left is what is left of a number of any size, as one of 64 bits with a sign.
func left(n *big.Int) int64 {
	word := new(big.Int).And(n, new(big.Int).SetUint64(math.MaxUint64))
	return int64(word.Uint64())
}

// wanted is what an operation makes of two numbers, by numbers of any size; false: it traps.
func wanted(word string, a, b int64) (int64, bool) {
	x, y, n := big.NewInt(a), big.NewInt(b), new(big.Int)
	order := x.Cmp(y)
	switch word {
	case "add":
		return left(n.Add(x, y)), true
	case "sub":
		return left(n.Sub(x, y)), true
	case "mul":
		return left(n.Mul(x, y)), true
	case "lt":
		return int64(max(0, -order)), true
	case "eq":
		return int64(1 - order*order), true
	}
	if b == 0 {
		return 0, false
	}
	return left(n.Quo(x, y)), true
}

// Promise 13.3: each operation of numbers, at the least and the greatest one, too; a division by 0 ends the run by its trap.
func TestNumbersMake(t *testing.T) {
	for _, word := range []string{"add", "sub", "mul", "div", "lt", "eq"} {
		for _, a := range edges {
			for _, b := range edges {
				text := "func main(i i) i { b0: out %1 %2 = " + word + " %0 %1 out %2 ret %2 }"
				want := traps(api.TrapDiv, 2, 0, b)
				if n, goes := wanted(word, a, b); goes {
					want = exits(n, 4, 0, b, n)
				}
				must(t, text, []int64{a, b}, want)
			}
		}
	}
}

// Promise 13.3: some of these, as they are told: a value is taken in the place in which it stands.
func TestNumbersTold(t *testing.T) {
	must(t, "func main() i { b0: %1 = const -7 %2 = const 2 %3 = div %1 %2 %4 = sub %1 %2 out %3 out %4 %5 = lt %1 %2 %6 = lt %2 %1 out %5 out %6 ret %3 }", nil, exits(-3, 11, 0, -3, -9, 1, 0))
	must(t, "func main(i) i { b0: %1 = const -1 %2 = div %0 %1 ret %2 }", []int64{math.MinInt64}, exits(math.MinInt64, 3, 0))
	must(t, "func main(i) i { b0: %1 = const 1 %2 = add %0 %1 %3 = sub %2 %1 %4 = eq %3 %0 out %2 ret %4 }", []int64{math.MaxInt64}, exits(1, 6, 0, math.MinInt64))
	must(t, "func main() i { b0: %1 = const 0 %2 = div %1 %1 ret %2 }", nil, traps(api.TrapDiv, 2, 0))
}

// Promise 13.3: same of nil and nil, of one object, of two alike, of an object and nil.
func TestSame(t *testing.T) {
	for text, want := range map[string]int64{
		"%1 = nil %2 = nil %9 = same %1 %2":                                                            1,
		"%1 = nil %2 = nil %9 = same %2 %2":                                                            1,
		"%1 = nil %2 = new . %9 = same %1 %2":                                                          0,
		"%1 = nil %2 = new . %9 = same %2 %1":                                                          0,
		"%1 = new ip %2 = new ip %9 = same %1 %2":                                                      0,
		"%1 = new ip %2 = new ip %9 = same %2 %2":                                                      1,
		"%1 = new . %2 = new . %9 = same %1 %2":                                                        0,
		"%1 = nil %2 = call.p f %1 %9 = same %2 %1":                                                    1,
		"%1 = new ip %2 = call.p f %1 %9 = same %2 %1":                                                 1,
		"%1 = new pp store.p %1 0 %1 %2 = load.p %1 0 store.p %1 0 %1 store.p %1 0 %1 %9 = same %2 %1": 1,
		"%1 = new pp %2 = load.p %1 1 %9 = same %2 %1":                                                 0,
		"%1 = nil %3 = new p %2 = load.p %3 0 %9 = same %2 %1":                                         1,
		"%1 = new p %3 = new p store.p %3 0 %1 %2 = load.p %3 0 %9 = same %2 %3":                       0,
	} {
		p := read(t, "func main() i { b0: "+text+" ret %9 } func f(p) p { b0: ret %0 }")
		if got := Go(p, nil, enough); got.Ended != api.Exits || got.N != want {
			t.Errorf("%s: %+v, want %d", text, got, want)
		}
	}
}

// lettered is the letters of a shape.
func lettered(slots, mask int) string {
	if slots == 0 {
		return "."
	}
	letters := make([]byte, slots)
	for i := range letters {
		letters[i] = "ip"[mask>>i&1]
	}
	return string(letters)
}

// Promises 13.2 and 13.3: new of each shape that may be: another object each time, whose slots hold 0; Words is told behind each.
func TestNewOfEach(t *testing.T) {
	var shapes []api.Shape
	for slots := range api.MaxSlots + 1 {
		for mask := range 1 << slots {
			shapes = append(shapes, api.Shape{Slots: slots, Mask: mask})
		}
	}
	for len(shapes) > 0 {
		some := shapes[:min(len(shapes), api.MaxInstrs-1)]
		shapes = shapes[len(some):]
		var block []api.Instr
		for i, x := range some {
			block = append(block, api.Instr{Op: api.ONew, Id: i, Name: lettered(x.Slots, x.Mask)})
		}
		block = append(block, api.Instr{Op: api.ORet, Id: -1})
		r := New(api.Prog{Funcs: []api.Func{{Name: "main", Blocks: [][]api.Instr{block}}}}, nil)
		mustMake(t, r, some)
	}
}

// mustMake holds that a run makes objects, one by one.
func mustMake(t *testing.T, r *Run, shapes []api.Shape) {
	t.Helper()
	words := 0
	for i, x := range shapes {
		r.Step()
		words += x.Slots + 1
		if got := r.Result(); !same(got, goes(i+1, words)) {
			t.Fatalf("behind %d of them: %+v, want %d words", i+1, got, words)
		}
		if got := r.objects.Shape(i + 1); got != x || r.objects.Len() != i+1 {
			t.Fatalf("%v is made as %v, object %d", x, got, r.objects.Len())
		}
		for slot := range x.Slots {
			if n, trap := r.objects.Load(i+1, slot, x.Mask>>slot&1 == 1); n != 0 || trap != 0 {
				t.Fatalf("%v: slot %d holds %d, trap %d", x, slot, n, trap)
			}
		}
	}
	r.Step()
	if got := r.Result(); !same(got, exits(0, len(shapes)+1, words)) {
		t.Fatalf("at the end: %+v, want %d words", got, words)
	}
}

// Promise 13.3: new makes another object each time that it is done.
func TestNewEachTime(t *testing.T) {
	must(t, `func main(i) i {
b0: %1 = const 1 %2 = nil br b1
b1: %3 = phi.i b0 %0 b1 %7 %4 = phi.p b0 %2 b1 %5 %5 = new ipp %6 = same %4 %5 out %6 %8 = load.i %5 0 out %8 store.i %5 0 %3 %7 = sub %3 %1 if %7 b1 b2
b2: %9 = load.i %4 0 ret %9
}`, []int64{3}, exits(2, 3+3*10+2, 12, 0, 0, 0, 0, 0, 0))
}

// Promise 13.3: out gives its number out, behind those that were given out ahead of it.
func TestOut(t *testing.T) {
	text := ""
	for i, n := range edges {
		value := "%" + strconv.Itoa(i)
		text += value + " = const " + strconv.FormatInt(n, 10) + " out " + value + " "
	}
	must(t, "func main() n { b0: "+text+"ret }", nil, exits(0, 2*len(edges)+1, 0, edges...))
	// What called functions give out stands between.
	must(t, "func main(i) n { b0: out %0 call.n f %0 out %0 call.n f %0 ret } func f(i) n { b0: %1 = const 5 out %1 ret }", []int64{4}, exits(0, 5+6, 0, 4, 5, 4, 5))
}

// Promise 13.3: reloc makes what it takes; poll and mark do nothing, but each counts as one.
func TestPutInLater(t *testing.T) {
	must(t, `func main() i {
b0: %1 = const 7 %2 = new ip store.i %2 0 %1 poll 1 %3 = reloc.p %2 1 mark %3 %4 = load.i %3 0 out %4
 %5 = slot %3 0 poll 2 %6 = reloc.d %5 2 %7 = get.i %6 out %7 %8 = same %2 %3 out %8 put.i %6 %8 %9 = load.i %2 0 ret %9
}`, nil, exits(1, 18, 3, 7, 7, 1))
	// Of nil, too.
	must(t, "func main() i { b0: %1 = nil poll 0 %2 = reloc.p %1 0 mark %2 mark %1 %3 = same %1 %2 ret %3 }", nil, exits(1, 7, 0))
	// The slot stays the one that it was.
	must(t, "func main() i { b0: %1 = const 7 %2 = new iiii store.i %2 3 %1 %3 = slot %2 3 poll 9 %4 = reloc.d %3 9 %5 = reloc.d %4 9 %6 = get.i %5 ret %6 }", nil, exits(7, 9, 5))
	// A call has a number, which does nothing here.
	must(t, "func main() i { b0: %1 = call.i @77 f ret %1 } func f() i { b0: %0 = const 3 ret %0 }", nil, exits(3, 4, 0))
	must(t, "func main() n { b0: poll 1 poll 1048576 ret }", nil, exits(0, 3, 0))
}

// Promise 13.3: what is put in later changes nothing but how many instructions are counted.
func TestLaterChangesNothing(t *testing.T) {
	plain := "func main(i) i { b0: %1 = new ip %2 = new ip store.p %1 1 %2 store.i %2 0 %0 %3 = load.p %1 1 %4 = load.i %3 0 out %4 ret %4 }"
	later := "func main(i) i { b0: poll 0 %1 = new ip poll 1 %11 = reloc.p %1 1 %2 = new ip mark %11 store.p %11 1 %2 store.i %2 0 %0 poll 2 %12 = reloc.p %11 2 %3 = load.p %12 1 %4 = load.i %3 0 out %4 ret %4 }"
	must(t, plain, []int64{6}, exits(6, 8, 6, 6))
	must(t, later, []int64{6}, exits(6, 14, 6, 6))
}
