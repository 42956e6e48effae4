package live

import (
	"reflect"
	"slices"
	"sync"
	"testing"

	"turntable/api"
	"turntable/graph"
	"turntable/made"
)

// answers is all that is answered of a function.
type answers struct {
	in    [][]int
	out   [][]int
	after [][]int
	most  int
}

// ask asks all of a function, and of some blocks and instructions beside those that it has.
func ask(v *Live, f api.Func) answers {
	got := answers{most: v.Most()}
	for k := -1; k <= len(f.Blocks); k++ {
		got.in, got.out = append(got.in, v.In(k)), append(got.out, v.Out(k))
		for i := -1; k >= 0 && k < len(f.Blocks) && i <= len(f.Blocks[k]); i++ {
			got.after = append(got.after, v.After(k, i))
		}
	}
	return got
}

// lists is all lists that were answered.
func (a answers) lists() [][]int { return slices.Concat(a.in, a.out, a.after) }

// spoil writes into all lists that were answered, also behind their lengths.
func (a answers) spoil() {
	for _, l := range a.lists() {
		made.Fill(l, 77)
	}
}

// mustAnswer holds all that is answered of a function.
func mustAnswer(t *testing.T, when string, v *Live, f api.Func, want answers) {
	t.Helper()
	if got := ask(v, f); !reflect.DeepEqual(got, want) {
		t.Fatalf("%s: %v, want %v", when, got, want)
	}
}

// one is a function by chance that may be run.
func one(m *made.Maker) api.Func {
	p := some(m, 1+m.Intn(9))
	return p.Funcs[m.Intn(len(p.Funcs))]
}

// R3: what lies behind a list's length is neither read nor written, nothing that is handed in is changed, and who writes into what was answered changes no later answer.
func TestOwnMemory(t *testing.T) {
	m := made.New(1)
	for range 1000 {
		f := one(m)
		want := ask(Of(f), f)
		full := made.Loaded(f)
		before := made.Whole(full)
		v := Of(full)
		for range 3 {
			got := ask(v, f)
			if !reflect.DeepEqual(got, want) {
				t.Fatalf("of lists with others behind them: %v, want %v", got, want)
			}
			got.spoil()
		}
		mustAnswer(t, "another one of the same function", Of(full), f, want)
		if !reflect.DeepEqual(made.Whole(full), before) {
			t.Fatalf("what was handed in was changed: %v", full)
		}
	}
}

// R3: a caller who writes into what it gave changes nothing that is answered, whether it was asked for already or not.
func TestNotKept(t *testing.T) {
	m := made.New(2)
	for range 1000 {
		f := one(m)
		want := ask(Of(f), f)
		given := made.Loaded(f)
		asked, fresh := Of(given), Of(given)
		first := ask(asked, f)
		made.Spoil(given)
		if !reflect.DeepEqual(first, want) {
			t.Fatalf("what was answered was changed: %v, want %v", first, want)
		}
		mustAnswer(t, "asked again", asked, f, want)
		mustAnswer(t, "asked for the first time", fresh, f, want)
	}
}

// R3: no two lists that were answered share memory: who makes one longer, or writes into it, does not write into another one. Also behind several phis, where all of them are alike.
func TestListsApart(t *testing.T) {
	f := read(t, "func main(i i i) n { b0: br b1 b1: %3 = phi.i b0 %0 b1 %4 %4 = phi.i b0 %1 b1 %5 %5 = phi.i b0 %2 b1 %3 if %4 b1 b2 b2: out %5 ret }")
	v := Of(f)
	want := ask(v, f)
	for n := range want.lists() {
		got := ask(v, f)
		lists := got.lists()
		_ = append(lists[n], 99, 98, 97)
		if !reflect.DeepEqual(got, want) {
			t.Fatalf("list %d made longer: %v, want %v", n, got, want)
		}
		made.Fill(lists[n], 77)
		for other, l := range lists {
			if other != n && !slices.Equal(l, want.lists()[other]) {
				t.Fatalf("list %d written to: list %d is %v", n, other, l)
			}
		}
	}
	mustAnswer(t, "lists written to", v, f, want)
}

// P6: two of one function, and of two, do not know of each other: what was made, or asked, between changes nothing.
func TestLivesApart(t *testing.T) {
	m := made.New(3)
	var functions []api.Func
	var lives []*Live
	var want []answers
	for range 200 {
		f := one(m)
		v := Of(f)
		functions, lives, want = append(functions, f, f), append(lives, v, Of(f)), append(want, ask(v, f), ask(v, f))
	}
	for _, i := range m.Perm(len(functions)) {
		mustAnswer(t, "asked later", lives[i], functions[i], want[i])
		mustAnswer(t, "made again", Of(functions[i]), functions[i], want[i])
	}
}

// P6: one that is asked by several at the same time.
func TestAskedSideBySide(t *testing.T) {
	f := read(t, example)
	v := Of(f)
	want := ask(v, f)
	got := make([]answers, 16)
	var all sync.WaitGroup
	for i := range got {
		all.Go(func() { got[i] = ask([]*Live{v, Of(f)}[i%2], f) })
	}
	all.Wait()
	for _, a := range got {
		if !reflect.DeepEqual(a, want) {
			t.Fatalf("side by side: %v, want %v", a, want)
		}
	}
}

// otherwise is a function that is the same as another one, but for what has nothing to do with what is live: names, places, numbers, and in which order a phi names its blocks.
func otherwise(m *made.Maker, f api.Func) api.Func {
	g := made.Bare(f)
	g.Name, g.At = "other", 99
	for k, block := range g.Blocks {
		for i, x := range block {
			block[i].At, block[i].N = m.Intn(99), int64(m.Intn(9))
			if x.Op != api.OPhi {
				continue
			}
			for j, at := range m.Perm(len(x.To)) {
				block[i].To[j], block[i].Args[j] = f.Blocks[k][i].To[at], f.Blocks[k][i].Args[at]
			}
		}
	}
	return g
}

// P6: what is answered hangs on what instructions make and take, and where they go, alone.
func TestWhatItHangsOn(t *testing.T) {
	m := made.New(4)
	for range 1000 {
		f := one(m)
		mustAnswer(t, "of a function that is the same here", Of(otherwise(m, f)), f, ask(Of(f), f))
	}
}

// R3: lists that are nil and lists without elements are the same.
func TestNilAndEmpty(t *testing.T) {
	f := read(t, "func main() n { b0: %0 = const 1 poll 3 out %0 br b1 b1: ret }")
	g := made.Bare(f)
	g.Params = []int{}
	for _, block := range g.Blocks {
		for i, x := range block {
			block[i].Args, block[i].To = append([]int{}, x.Args...), append([]int{}, x.To...)
		}
	}
	mustAnswer(t, "with empty lists", Of(g), g, ask(Of(made.Bare(f)), f))
}

// Of functions that no program has that may be run, of which nothing is promised, the calls end, too.
func TestAnything(t *testing.T) {
	m := made.New(5)
	shaped := 0
	for range 3000 {
		f := made.Bare(one(m))
		for k, block := range f.Blocks {
			for i := range block {
				if m.Intn(4) == 0 {
					block[i] = api.Instr{Op: m.Intn(33) - 1, Id: m.Intn(12) - 3, Type: m.Intn(6) - 1, Args: m.Labels(m.Intn(4), 9), To: m.Labels(m.Intn(4), 12)}
				}
				if m.Intn(40) == 0 {
					block[i].Args, block[i].To = []int{-5, 1 << 40}, []int{-1, 1 << 40, 0}
				}
			}
			if m.Intn(9) == 0 {
				f.Blocks[k] = nil
			}
		}
		if graph.Shaped(f).Code == api.OK {
			shaped++
		}
		v := Of(f)
		mustAnswer(t, "asked again", v, f, ask(v, f))
	}
	if shaped == 0 || shaped == 3000 {
		t.Errorf("%d functions are well shaped", shaped)
	}
}
