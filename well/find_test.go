package well

import (
	"math"
	"reflect"
	"slices"
	"strings"
	"testing"

	"turntable/api"
	"turntable/made"
)

// mustFind holds what Find answers: the function at a place of the program, or none (below 0).
func mustFind(t *testing.T, p api.Prog, name string, want int) {
	t.Helper()
	f, found := Find(p, name)
	if want < 0 {
		if found || !reflect.DeepEqual(f, api.Func{}) {
			t.Fatalf("Find(%q) is %v, %v, want none", name, f, found)
		}
		return
	}
	if !found || !reflect.DeepEqual(f, p.Funcs[want]) {
		t.Fatalf("Find(%q) is %v, %v, want %v", name, f, found, p.Funcs[want])
	}
}

// Promise 11.1: names that are there, once and twice, and that are not.
func TestFind(t *testing.T) {
	p, _ := read(t, "func main(i) i { b0: ret %0 } func f(p) n { b0: ret } func g() p { b0: %1 = nil ret %1 } func f() n { b0: fail 7 } func f() i { b0: fail 8 }")
	mustFind(t, p, "main", 0)
	mustFind(t, p, "f", 1)
	mustFind(t, p, "g", 2)
	for _, name := range []string{"", "h", "F", "mai", "mainn", "ff", " f", "f ", "f\x00", "b0", strings.Repeat("f", 100)} {
		mustFind(t, p, name, -1)
	}
	for _, name := range []string{"", "main", "f"} {
		mustFind(t, api.Prog{}, name, -1)
		mustFind(t, api.Prog{Funcs: []api.Func{}}, name, -1)
	}
}

// Promise 11.1: Find asks for the name alone: whether the program may be run is not asked.
func TestFindAnyProgram(t *testing.T) {
	p := api.Prog{Funcs: []api.Func{{Name: "A b", Ret: 9, At: -3}, {At: 1, Params: []int{7}}, {Name: "", At: 2}, {Name: "A b", At: 4}, {Name: "\xff", Blocks: [][]api.Instr{nil, {{Op: 99, To: []int{-1}}, {}}}}}}
	mustFind(t, p, "A b", 0)
	mustFind(t, p, "", 1)
	mustFind(t, p, "\xff", 4)
	mustFind(t, p, "main", -1)
	p.Funcs = append(p.Funcs, make([]api.Func, 1000)...)
	p.Funcs = append(p.Funcs, api.Func{Name: "main", At: 5})
	mustFind(t, p, "main", 1005)
}

// Promise 11.1: each function of programs by chance.
func TestFindByChance(t *testing.T) {
	eachProgram(300, func(_ *made.Maker, p api.Prog, _ bool) {
		for k, f := range p.Funcs {
			mustFind(t, p, f.Name, k)
		}
	})
}

// mustType holds the types of a function's values, and that nothing else has one.
func mustType(t *testing.T, f api.Func, want map[int]int) {
	t.Helper()
	got := Types(f)
	if got == nil || !reflect.DeepEqual(got, want) {
		t.Fatalf("Types is %v, want %v, of %v", got, want, f)
	}
	for _, value := range []int{math.MinInt, -2, -1, 4096, math.MaxInt} {
		if kind, there := got[value]; there || kind != api.TNone {
			t.Fatalf("%d has the type %d", value, kind)
		}
	}
}

// Promise 11.2: the parameters' types, and none where there are none.
func TestTypesOfParameters(t *testing.T) {
	p, _ := read(t, "func main() n { b0: ret } func f(i) i { b0: ret %0 } func g(p i p) n { b0: fail 1 } func h(i i i i i i i p) n { b0: ret }")
	mustType(t, p.Funcs[0], map[int]int{})
	mustType(t, p.Funcs[1], map[int]int{0: api.TInt})
	mustType(t, p.Funcs[2], map[int]int{0: api.TPtr, 1: api.TInt, 2: api.TPtr})
	mustType(t, p.Funcs[3], map[int]int{0: 1, 1: 1, 2: 1, 3: 1, 4: 1, 5: 1, 6: 1, 7: 2})
}

// all is a program with each operation, of each type that it may be of.
const all = `func main(i) i {
b0: %10 = const 5 %11 = add %0 %10 %12 = sub %0 %10 %13 = mul %0 %10 %14 = div %0 %10 %15 = lt %0 %10 %16 = eq %0 %10
 %20 = nil %21 = same %20 %20 %22 = new ip %23 = load.i %22 0 %24 = load.p %22 1 store.i %22 0 %23 store.p %22 1 %24
 %30 = slot %22 0 %31 = get.i %30 %32 = get.p %30 put.i %30 %31 put.p %30 %32
 call.n f %40 = call.i g %22 %41 = call.p @3 h %0 %22 out %40 poll 9 %42 = reloc.p %22 1 %43 = reloc.d %30 1 mark %42
 br b1
b1: %50 = phi.i b0 %10 %51 = phi.p b0 %22 %52 = phi.d b0 %30 if %50 b2 b3
b2: ret %50
b3: fail 3
}
func f() n { b0: ret }
func g(p) i { b0: %1 = const 1 ret %1 }
func h(i p) p { b0: ret %1 }`

// Promise 11.2: what each operation makes; instructions that make nothing tell nothing.
func TestTypesOfOperations(t *testing.T) {
	p, _ := read(t, all)
	if e := Made(p); e != (api.Err{}) {
		t.Fatalf("Made is %v", e)
	}
	mustType(t, p.Funcs[0], map[int]int{0: 1, 10: 1, 11: 1, 12: 1, 13: 1, 14: 1, 15: 1, 16: 1, 20: 2, 21: 1, 22: 2, 23: 1, 24: 2, 30: 3, 31: 1, 32: 2, 40: 1, 41: 2, 42: 2, 43: 3, 50: 1, 51: 2, 52: 3})
	mustType(t, p.Funcs[2], map[int]int{0: 2, 1: 1})
}

// Promise 11.2: the order in which the blocks stand is no matter; nor are gaps, and the greatest number.
func TestTypesInAnyOrder(t *testing.T) {
	p, _ := read(t, "func main(i) i { b0: br b3 b1: %1048576 = load.i %3 0 ret %1048576 b2: %7 = slot %3 0 br b1 b3: %3 = new i br b2 }")
	must(t, p, api.Err{}, api.Err{})
	mustType(t, p.Funcs[0], map[int]int{0: 1, 1048576: 1, 7: 3, 3: 2})
}

// Promise 11.2: programs by chance, with the types that their maker chose.
func TestTypesByChance(t *testing.T) {
	eachProgram(2000, func(_ *made.Maker, p api.Prog, _ bool) {
		for _, f := range p.Funcs {
			mustType(t, f, typed(f))
		}
	})
}

// typed is the types of a function's values, told once more.
func typed(f api.Func) map[int]int {
	types := map[int]int{}
	for value := range f.Params {
		types[value] = f.Params[value]
	}
	pointers := []int{api.ONil, api.ONew, api.OLoadP, api.OGetP}
	for _, block := range f.Blocks {
		for _, x := range block {
			switch {
			case x.Id < 0:
			case x.Op == api.OPhi || x.Op == api.OCall || x.Op == api.OReloc:
				types[x.Id] = x.Type
			case x.Op == api.OSlot:
				types[x.Id] = api.TDer
			case slices.Contains(pointers, x.Op):
				types[x.Id] = api.TPtr
			default:
				types[x.Id] = api.TInt
			}
		}
	}
	return types
}
