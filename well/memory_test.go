package well

import (
	"reflect"
	"testing"

	"turntable/api"
	"turntable/made"
)

// answers is all that is answered of a program.
type answers struct {
	source, made api.Err
	found        []api.Func
	types        []map[int]int
}

// ask asks all of a program.
func ask(p api.Prog) answers {
	got := answers{source: Source(p), made: Made(p)}
	for _, name := range []string{"main", "f0", "f1", "f2", "F", ""} {
		f, _ := Find(p, name)
		got.found = append(got.found, f)
	}
	for _, f := range p.Funcs {
		got.types = append(got.types, Types(f))
	}
	return got
}

// mustAnswer holds all that is answered of a program.
func mustAnswer(t *testing.T, when string, p api.Prog, want answers) {
	t.Helper()
	if got := ask(p); !reflect.DeepEqual(got, want) {
		t.Fatalf("%s: %v, want %v", when, got, want)
	}
}

// spoil writes into all that was answered.
func (a answers) spoil() {
	for _, f := range a.found {
		made.Spoil(f)
	}
	for _, types := range a.types {
		for value := range 50 {
			types[value] = 77
		}
	}
}

// some is a program by chance, that may be run or not.
func some(m *made.Maker) api.Prog {
	p := m.Program(1+m.Intn(3), 1+m.Intn(6), m.Intn(2) == 0)
	for range m.Intn(3) {
		spoil(m, p)
	}
	return p
}

// R3: what lies behind a list's length is neither read nor written nor handed out, nothing that is handed in is changed, and who writes into what was answered changes no later answer.
func TestOwnMemory(t *testing.T) {
	m := made.New(1)
	for range 1000 {
		p := some(m)
		want := ask(p)
		full := made.LoadedProg(p)
		before := made.WholeProg(full)
		for range 3 {
			got := ask(full)
			if !same(got, want) {
				t.Fatalf("of lists with others behind them: %v, want %v", got, want)
			}
			got.spoil()
		}
		if !reflect.DeepEqual(made.WholeProg(full), before) {
			t.Fatalf("what was handed in was changed: %v", full)
		}
	}
}

// same tells whether two answers are the same; lists that are nil and lists without elements are.
func same(a, b answers) bool { return reflect.DeepEqual(a.bare(), b.bare()) }

// bare is answers of their own memory whose lists without elements are nil.
func (a answers) bare() answers {
	found := a.found
	a.found = nil
	for _, f := range found {
		a.found = append(a.found, made.Bare(f))
	}
	return a
}

// R3: a caller who writes into what it gave changes nothing that was answered.
func TestNotKept(t *testing.T) {
	m := made.New(2)
	for range 500 {
		p := some(m)
		want := ask(p)
		given := made.LoadedProg(p)
		got := ask(given)
		made.SpoilProg(given)
		if !same(got, want) {
			t.Fatalf("what was answered was changed: %v, want %v", got, want)
		}
		if got := ask(p); !same(got, want) {
			t.Fatalf("asked again: %v, want %v", got, want)
		}
	}
}

// R3: no two lists that Find answered share memory: who makes one longer does not write into another one.
func TestListsApart(t *testing.T) {
	m := made.New(3)
	for range 300 {
		p := m.Program(2, 6, true)
		f, _ := Find(p, "main")
		g, _ := Find(p, "main")
		for k, block := range f.Blocks {
			for _, x := range block {
				_ = append(x.Args, 99, 98)
				_ = append(x.To, 97, 96)
			}
			_ = append(f.Blocks[k], api.Instr{Op: 95}, api.Instr{Op: 94})
		}
		_ = append(f.Params, 93)
		_ = append(f.Blocks, nil, nil)
		if !reflect.DeepEqual(f, g) {
			t.Fatalf("lists made longer: %v, want %v", f, g)
		}
	}
}

// P6: programs do not know of each other: what was asked between changes nothing.
func TestProgramsApart(t *testing.T) {
	m := made.New(4)
	var programs []api.Prog
	var want []answers
	for range 200 {
		p := some(m)
		programs, want = append(programs, p), append(want, ask(p))
	}
	for _, i := range m.Perm(len(programs)) {
		mustAnswer(t, "asked later", programs[i], want[i])
	}
}

// R3: lists that are nil and lists without elements are the same.
func TestNilAndEmpty(t *testing.T) {
	p, _ := read(t, "func main() n { b0: %0 = const 1 poll 3 ret }")
	q := api.Prog{Funcs: []api.Func{apart(p.Funcs[0])}}
	q.Funcs[0].Params = []int{}
	for i := range q.Funcs[0].Blocks[0] {
		q.Funcs[0].Blocks[0][i].Args, q.Funcs[0].Blocks[0][i].To = []int{}, []int{}
	}
	a, b := ask(p), ask(q)
	if !same(a, b) {
		t.Fatalf("with empty lists: %v, want %v", b, a)
	}
}

// Of programs that may not be, and of functions that no program may have, the calls end, too.
func TestAnything(t *testing.T) {
	m := made.New(5)
	for range 3000 {
		p := some(m)
		f := &p.Funcs[m.Intn(len(p.Funcs))]
		for k, block := range f.Blocks {
			for i := range block {
				if m.Intn(4) > 0 {
					continue
				}
				block[i] = api.Instr{Op: m.Intn(33) - 1, Id: m.Intn(12) - 3, N: int64(m.Intn(40) - 3), Type: m.Intn(6) - 1, Args: m.Labels(m.Intn(4), 9), To: m.Labels(m.Intn(4), 300)}
			}
			if m.Intn(9) == 0 {
				f.Blocks[k] = nil
			}
		}
		hold(t, p)
		ask(p)
	}
}
