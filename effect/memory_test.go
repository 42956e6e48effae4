package effect

import (
	"reflect"
	"slices"
	"strings"
	"sync"
	"testing"

	"turntable/api"
	"turntable/made"
)

// texts is what is told of a program, as letters.
func texts(all []api.Effect) []string {
	var l []string
	for _, e := range all {
		l = append(l, words(e))
	}
	return l
}

// mustTell holds that a program's functions, and their calls, do what they are told to do.
func mustTell(t *testing.T, when string, all []api.Effect, table *Table, names, want []string) {
	t.Helper()
	if got := texts(all); !slices.Equal(got, want) {
		t.Fatalf("%s: %q, want %q", when, got, want)
	}
	for k, name := range names {
		mustCall(t, table, name, want[k])
	}
}

// names is the names of a program's functions.
func names(p api.Prog) []string {
	var l []string
	for _, f := range p.Funcs {
		l = append(l, f.Name)
	}
	return l
}

// R3: what lies behind a list's length is neither read, nor written, and nothing that is handed in is changed; a caller who writes into what was answered changes nothing that is told later.
func TestOwnMemory(t *testing.T) {
	m := made.New(1)
	for range 1000 {
		p := some(m)
		want, named := told(p), names(p)
		full := made.LoadedProg(p)
		before := made.WholeProg(full)
		table := New(full)
		for range 2 {
			all := Of(full)
			mustTell(t, "of lists with others behind them", all, table, named, want)
			_ = append(all, does(letters))
			made.Fill(all, does(letters))
			for k, f := range full.Funcs {
				calls := Calls(f)
				if !slices.Equal(calls, Calls(p.Funcs[k])) {
					t.Fatalf("%q, of lists with others behind them, want %q", calls, Calls(p.Funcs[k]))
				}
				_ = append(calls, "main")
				made.Fill(calls, "main")
			}
		}
		if !reflect.DeepEqual(made.WholeProg(full), before) {
			t.Fatalf("what was handed in was changed: %v", full)
		}
	}
}

// R3: a caller who writes into what it gave changes nothing that was answered, or that a table tells later.
func TestNotKept(t *testing.T) {
	m := made.New(2)
	for range 1000 {
		p := some(m)
		want, named := told(p), names(p)
		given := made.LoadedProg(p)
		all, table := Of(given), New(given)
		var calls [][]string
		for _, f := range given.Funcs {
			calls = append(calls, Calls(f))
		}
		made.SpoilProg(given)
		mustTell(t, "behind writing into what was given", all, table, named, want)
		for k, f := range p.Funcs {
			if !slices.Equal(calls[k], Calls(f)) {
				t.Fatalf("behind writing into what was given: %q, want %q", calls[k], Calls(f))
			}
		}
	}
}

// R3: neither Instr's argument, nor what lies behind its lists, is changed; two answers of a call share nothing.
func TestInstrMemory(t *testing.T) {
	p := program(t, made.Example)
	table := New(p)
	x := api.Instr{Op: api.OCall, Id: 7, N: 9, Type: api.TPtr, Args: made.Behind([]int{3, 4}, 66), To: made.Behind([]int{5}, 67), Name: "cons", At: 12}
	before := made.Whole(api.Func{Blocks: [][]api.Instr{{x}}})
	one := table.Instr(x)
	Own(x)
	one.Gives = true
	if got := words(table.Instr(x)); got != "wmt" {
		t.Errorf("%s, want wmt", got)
	}
	if !reflect.DeepEqual(made.Whole(api.Func{Blocks: [][]api.Instr{{x}}}), before) {
		t.Errorf("what was handed in was changed: %v", x)
	}
	for k, f := range p.Funcs {
		a, b := Calls(f), Calls(f)
		made.Fill(a, "x")
		if k == 0 && !slices.Equal(b, []string{"cons"}) || k == 1 && len(b) > 0 {
			t.Errorf("%q", b)
		}
	}
}

// R3: lists that are nil and lists without elements are the same.
func TestNilAndEmpty(t *testing.T) {
	p := program(t, "func main() n { b0: poll 3 call.n f br b1 b1: ret } func f() n { b0: ret }")
	q := api.Prog{}
	for _, f := range p.Funcs {
		f = made.Bare(f)
		f.Params = []int{}
		for _, block := range f.Blocks {
			for i, x := range block {
				block[i].Args, block[i].To = append([]int{}, x.Args...), append([]int{}, x.To...)
			}
		}
		q.Funcs = append(q.Funcs, f)
	}
	mustTell(t, "with empty lists", Of(q), New(q), names(p), []string{"t", "."})
	if len(Of(api.Prog{Funcs: []api.Func{}})) > 0 || len(Calls(api.Func{Blocks: [][]api.Instr{}})) > 0 || len(Calls(api.Func{Blocks: [][]api.Instr{{}}})) > 0 {
		t.Error("of nothing something is told")
	}
	if got := New(api.Prog{Funcs: []api.Func{}}).Instr(calling("main")); words(got) != letters {
		t.Errorf("%s, want all", words(got))
	}
}

// P6: the same program, the same answer: asked again, and by several at the same time, also of one table.
func TestSameAgain(t *testing.T) {
	m := made.New(3)
	for range 50 {
		p := some(m)
		want, named := told(p), names(p)
		shared := New(p)
		var group sync.WaitGroup
		all, tables, calls := make([][]api.Effect, 8), make([]*Table, 8), make([][]string, 8)
		for i := range all {
			group.Go(func() {
				all[i], tables[i] = Of(p), New(p)
				for _, f := range p.Funcs {
					calls[i] = append(calls[i], strings.Join(Calls(f), " "))
				}
				for _, name := range named {
					shared.Instr(calling(name))
				}
			})
		}
		group.Wait()
		for i := range all {
			mustTell(t, "side by side", all[i], tables[i], named, want)
			mustTell(t, "side by side, of one table", all[i], shared, named, want)
			if !slices.Equal(calls[i], calls[0]) {
				t.Fatalf("%q, and %q", calls[i], calls[0])
			}
		}
	}
}

// Of programs that may not be run nothing is promised; the calls end there, too, and tell the same again.
func TestAnything(t *testing.T) {
	m := made.New(4)
	for range 3000 {
		p := some(m)
		for k, f := range p.Funcs {
			f = made.Bare(f)
			for i, block := range f.Blocks {
				for j := range block {
					if m.Intn(4) == 0 {
						block[j] = api.Instr{Op: m.Intn(33) - 1, Id: m.Intn(12) - 3, Type: m.Intn(6) - 1, Args: m.Labels(m.Intn(4), 9), To: made.Strangers(3)[:m.Intn(4)], Name: []string{"", "f0", "f1", "main", "x"}[m.Intn(5)]}
					}
				}
				if m.Intn(9) == 0 {
					f.Blocks[i] = nil
				}
			}
			if m.Intn(5) == 0 {
				f.Name = []string{"", "f0", "main"}[m.Intn(3)]
			}
			p.Funcs[k] = f
		}
		table := New(p)
		if all := Of(p); len(all) != len(p.Funcs) || !slices.Equal(all, Of(p)) {
			t.Fatalf("%q, and %q", texts(all), texts(Of(p)))
		}
		for _, f := range p.Funcs {
			for _, x := range slices.Concat(f.Blocks...) {
				if table.Instr(x) != New(p).Instr(x) {
					t.Fatalf("%v does %s, and %s", x, words(table.Instr(x)), words(New(p).Instr(x)))
				}
			}
			Calls(f)
		}
	}
	for _, f := range []api.Func{{}, {Name: "main"}, {Blocks: [][]api.Instr{nil}}, {Blocks: [][]api.Instr{{{}}}}, {Blocks: [][]api.Instr{{calling("main")}}}} {
		if got := Of(api.Prog{Funcs: []api.Func{f, f}}); len(got) != 2 {
			t.Errorf("%q", texts(got))
		}
	}
	var none *Table
	if none.Instr(api.Instr{Op: api.OOut}) != does("g") || none.Instr(calling("main")) != does(letters) {
		t.Error("a table that is nil tells other things than one of no functions")
	}
}
