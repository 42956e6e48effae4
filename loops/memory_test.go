package loops

import (
	"reflect"
	"slices"
	"testing"

	"turntable/api"
	"turntable/made"
)

// answers is all that is answered of a function, and of loops of it.
type answers struct {
	loops               []api.Loop
	entry, depth, inner []int
}

// ask asks of loops of a function, and of the blocks, and the numbers beside them.
func ask(f api.Func, l []api.Loop) answers {
	got := answers{inner: Inner(l)}
	// A list that is nil and one without elements are the same.
	if len(l) > 0 {
		got.loops = l
	}
	for _, x := range l {
		got.entry = append(got.entry, Entry(f, x))
	}
	for k := -1; k <= len(f.Blocks); k++ {
		got.depth = append(got.depth, Depth(l, k))
	}
	return got
}

// mustAnswer holds all that is answered of a function, and of loops of it.
func mustAnswer(t *testing.T, when string, f api.Func, l []api.Loop, want answers) {
	t.Helper()
	if got := ask(f, l); !reflect.DeepEqual(got, want) {
		t.Fatalf("%s: of %v: %v, want %v", when, made.Edges(f), got, want)
	}
}

// fill writes a number into a list, also behind its length.
func fill(l []int) {
	l = l[:cap(l)]
	for i := range l {
		l[i] = 77
	}
}

// spoil writes into all lists that were answered, also behind their lengths.
func (a answers) spoil() {
	fill(a.inner)
	for _, l := range a.loops {
		fill(l.Blocks)
		fill(l.Backs)
	}
	loops := a.loops[:cap(a.loops)]
	for i := range loops {
		loops[i] = api.Loop{Head: 77, Up: 77}
	}
}

// loadedLoops is loops of their own memory whose lists have others behind their lengths: loops, blocks, backs; with these, if whole is asked for.
func loadedLoops(l []api.Loop, whole bool) []api.Loop {
	list := slices.Clone(l)
	for i, x := range list {
		list[i].Blocks, list[i].Backs = made.Behind(x.Blocks, 0, 1, 2, 3), made.Behind(x.Backs, 0, 1)
		if whole {
			list[i].Blocks, list[i].Backs = list[i].Blocks[:cap(list[i].Blocks)], list[i].Backs[:cap(list[i].Backs)]
		}
	}
	list = made.Behind(list, api.Loop{Head: 1, Blocks: []int{0, 1, 2}, Backs: []int{2}})
	if whole {
		list = list[:cap(list)]
	}
	return list
}

// R3: what lies behind a list's length is neither read nor written, nothing that is handed in is changed, and who writes into what was answered changes no later answer.
func TestOwnMemory(t *testing.T) {
	m := made.New(6)
	for range 1000 {
		f := some(m, 3+m.Intn(6))
		want := ask(f, Of(f))
		full := made.Loaded(f)
		before := made.Whole(full)
		for range 3 {
			got := ask(full, Of(full))
			if !reflect.DeepEqual(got, want) {
				t.Fatalf("of %v: %v, want %v", made.Edges(f), got, want)
			}
			got.spoil()
		}
		if !reflect.DeepEqual(made.Whole(full), before) {
			t.Fatalf("what was handed in was changed: %v", full.Blocks)
		}
	}
}

// R3: loops that are handed in are not changed, nothing behind the lengths of their lists is read or written, and what Inner tells of them is no piece of them.
func TestLoopsNotChanged(t *testing.T) {
	m := made.New(5)
	for range 1000 {
		f := some(m, 3+m.Intn(6))
		want := ask(f, Of(f))
		l := loadedLoops(want.loops, false)
		mustAnswer(t, "of loops with others behind them", f, l, want)
		fill(Inner(l))
		mustAnswer(t, "asked again", f, l, want)
		if !reflect.DeepEqual(reach(l), loadedLoops(want.loops, true)) {
			t.Fatalf("what was handed in was changed: %v", reach(l))
		}
	}
}

// reach is loops with what lies behind their lists.
func reach(l []api.Loop) []api.Loop {
	list := slices.Clone(l[:cap(l)])
	for i, x := range list[:len(l)] {
		list[i].Blocks, list[i].Backs = x.Blocks[:cap(x.Blocks)], x.Backs[:cap(x.Backs)]
	}
	return list
}

// R3: a caller who writes into what it gave changes nothing that was answered, and nothing that is.
func TestNotKept(t *testing.T) {
	m := made.New(7)
	for range 500 {
		f := some(m, 3+m.Intn(6))
		want := ask(f, Of(f))
		g := made.Loaded(f)
		l := Of(g)
		first := ask(g, l)
		for i, block := range g.Blocks {
			for j := range block {
				fill(block[j].To)
				block[j] = api.Instr{}
			}
			g.Blocks[i] = nil
		}
		if !reflect.DeepEqual(first, want) {
			t.Fatalf("what was answered was changed: %v, want %v", first, want)
		}
		mustAnswer(t, "asked again", f, l, want)
		first.spoil()
		mustAnswer(t, "asked of other loops", f, Of(f), want)
	}
}

// R3: no two lists that were answered share memory: who makes one longer does not write into another one.
func TestListsApart(t *testing.T) {
	f := made.Flow([]int{1}, []int{2}, []int{3}, []int{3, 4}, []int{2, 5}, []int{1, 6}, []int{7, 6}, []int{6, 0})
	want := ask(f, Of(f))
	got := ask(f, Of(f))
	for i := range got.loops {
		_ = append(got.loops[i].Blocks, 99, 98, 97)
		_ = append(got.loops[i].Backs, 96, 95)
		_ = append(got.inner, 94)
		if !reflect.DeepEqual(got, want) {
			t.Fatalf("lists of loop %d made longer: %v, want %v", i, got, want)
		}
	}
	mustAnswer(t, "lists made longer", f, Of(f), want)
}

// P6: functions do not know of each other: what was asked between changes nothing.
func TestFunctionsApart(t *testing.T) {
	m := made.New(8)
	var fs []api.Func
	var want []answers
	for range 100 {
		f := some(m, 2+m.Intn(8))
		fs, want = append(fs, f), append(want, ask(f, Of(f)))
	}
	for _, i := range m.Perm(len(fs)) {
		mustAnswer(t, "asked later", fs[i], want[i].loops, want[i])
		mustAnswer(t, "asked again", fs[i], Of(fs[i]), want[i])
	}
}

// P6: what is answered hangs on where the blocks go alone: not on what else a function has, which of two labels is first, or whether one stands there twice.
func TestEdgesAlone(t *testing.T) {
	m := made.New(9)
	for range 1000 {
		f := some(m, 2+m.Intn(8))
		want := ask(f, Of(f))
		g := api.Func{Name: "other", Params: []int{2, 1}, Ret: api.TPtr, At: 99}
		for k := range f.Blocks {
			list := m.Shuffled(append(slices.Clone(made.To(f, k)), made.To(f, k)...))
			op := m.One([]int{api.OBr, api.OIf, api.ORet, api.OFail})
			g.Blocks = append(g.Blocks, []api.Instr{{Op: api.OPhi, To: []int{0, 1}}, {Op: op, Id: 3, N: 7, Type: 2, Args: []int{1}, Name: "x", At: 5, To: list}})
		}
		mustAnswer(t, "of the same edges", g, Of(g), want)
	}
}

// R3: lists that are nil and lists without elements are the same.
func TestNilAndEmpty(t *testing.T) {
	a := api.Func{Blocks: [][]api.Instr{{{Op: api.OIf, To: []int{0, 1}}}, {{Op: api.ORet}}}}
	b := api.Func{Blocks: [][]api.Instr{{{Op: api.OIf, To: []int{0, 1}, Args: []int{}}}, {{Op: api.ORet, To: []int{}, Args: []int{}}}}, Params: []int{}}
	mustAnswer(t, "with empty lists", b, Of(b), ask(a, Of(a)))
	mustAnswer(t, "with empty lists", a, Of(b), ask(b, Of(a)))
}
