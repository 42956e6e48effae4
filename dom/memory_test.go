package dom

import (
	"reflect"
	"slices"
	"testing"

	"turntable/api"
	"turntable/made"
)

// answers is all that a tree answers of so many blocks, and of some numbers beside them.
type answers struct {
	up, depth, down []int
	kids            [][]int
	ahead           []bool
}

func ask(d *Tree, blocks int) answers {
	var got answers
	for k := -1; k <= blocks; k++ {
		got.up, got.depth, got.kids = append(got.up, d.Up(k)), append(got.depth, d.Depth(k)), append(got.kids, d.Kids(k))
		for b := -1; b <= blocks; b++ {
			got.ahead = append(got.ahead, d.Ahead(k, b))
		}
	}
	got.down = d.Down()
	return got
}

// spoil writes into all lists that were answered, also behind their lengths.
func (a answers) spoil() {
	for _, l := range append(slices.Clone(a.kids), a.down) {
		l = l[:cap(l)]
		for i := range l {
			l[i] = 77
		}
	}
}

// mustAnswer holds all that a tree answers.
func mustAnswer(t *testing.T, when string, d *Tree, blocks int, want answers) {
	t.Helper()
	if got := ask(d, blocks); !reflect.DeepEqual(got, want) {
		t.Fatalf("%s: %v, want %v", when, got, want)
	}
}

// R3: what lies behind a list's length is neither read nor written, nothing that is handed in is changed, and who writes into what was answered changes no later answer.
func TestOwnMemory(t *testing.T) {
	m := made.New(6)
	for range 500 {
		f := m.Function(m.Edges(3 + m.Intn(5)))
		blocks := len(f.Blocks)
		want := ask(Of(f), blocks)
		full := made.Loaded(f)
		before := made.Whole(full)
		d := Of(full)
		for range 3 {
			got := ask(d, blocks)
			if !reflect.DeepEqual(got, want) {
				t.Fatalf("of %v: %v, want %v", f.Blocks, got, want)
			}
			got.spoil()
		}
		mustAnswer(t, "another tree of the same function", Of(full), blocks, want)
		if !reflect.DeepEqual(made.Whole(full), before) {
			t.Fatalf("what was handed in was changed: %v", full.Blocks)
		}
	}
}

// R3: a caller who writes into what it gave changes nothing that is answered, whether it was asked for already or not.
func TestNotKept(t *testing.T) {
	m := made.New(7)
	for range 300 {
		f := m.Function(m.Edges(3 + m.Intn(5)))
		blocks := len(f.Blocks)
		want := ask(Of(f), blocks)
		g := made.Loaded(f)
		asked, fresh := Of(g), Of(g)
		first := ask(asked, blocks)
		for i, block := range g.Blocks {
			for j := range block {
				for k := range block[j].To {
					block[j].To[k] = 2
				}
				block[j] = api.Instr{}
			}
			g.Blocks[i] = nil
		}
		if !reflect.DeepEqual(first, want) {
			t.Fatalf("what was answered was changed: %v, want %v", first, want)
		}
		mustAnswer(t, "asked again", asked, blocks, want)
		mustAnswer(t, "asked for the first time", fresh, blocks, want)
	}
}

// R3: no two lists that were answered share memory: who makes one longer does not write into another one.
func TestListsApart(t *testing.T) {
	d := Of(made.Flow([]int{1, 2, 3}, []int{4, 5}, []int{6, 7}, []int{8}, nil, nil, nil, nil, nil))
	want := ask(d, 9)
	got := ask(d, 9)
	for i := range got.kids {
		_ = append(got.kids[i], 99)
		_ = append(got.down, 98)
		if !reflect.DeepEqual(got, want) {
			t.Fatalf("list %d made longer: %v, want %v", i, got, want)
		}
	}
	mustAnswer(t, "lists made longer", d, 9, want)
}

// P6: trees do not know of each other: what was made or asked between changes nothing.
func TestTreesApart(t *testing.T) {
	m := made.New(8)
	var fs []api.Func
	var trees []*Tree
	var want []answers
	for range 50 {
		f := m.Function(m.Edges(2 + m.Intn(8)))
		fs, trees = append(fs, f), append(trees, Of(f))
		want = append(want, ask(trees[len(trees)-1], len(f.Blocks)))
	}
	for _, i := range m.Perm(len(fs)) {
		mustAnswer(t, "asked later", trees[i], len(fs[i].Blocks), want[i])
		mustAnswer(t, "made again", Of(fs[i]), len(fs[i].Blocks), want[i])
	}
}

// P6: what is answered hangs on where the blocks go alone: not on what else a function has, which of two labels is first, or whether one stands there twice.
func TestEdgesAlone(t *testing.T) {
	m := made.New(10)
	for range 500 {
		f := m.Function(m.Edges(2 + m.Intn(6)))
		want := ask(Of(f), len(f.Blocks))
		g := api.Func{Name: "other", Params: []int{2, 1}, Ret: api.TPtr, At: 99}
		for k := range f.Blocks {
			list := m.Shuffled(append(slices.Clone(made.To(f, k)), made.To(f, k)...))
			op := m.One([]int{api.OBr, api.OIf, api.ORet, api.OFail})
			g.Blocks = append(g.Blocks, []api.Instr{{Op: api.OPhi, To: []int{0, 1}}, {Op: op, Id: 3, N: 7, Type: 2, Args: []int{1}, Name: "x", At: 5, To: list}})
		}
		mustAnswer(t, "of the same edges", Of(g), len(f.Blocks), want)
	}
}

// R3: lists that are nil and lists without elements are the same.
func TestNilAndEmpty(t *testing.T) {
	a := api.Func{Blocks: [][]api.Instr{{{Op: api.OBr, To: []int{1}}}, {{Op: api.ORet}}}}
	b := api.Func{Blocks: [][]api.Instr{{{Op: api.OBr, To: []int{1}, Args: []int{}}}, {{Op: api.ORet, To: []int{}, Args: []int{}}}}, Params: []int{}}
	mustAnswer(t, "with empty lists", Of(b), 2, ask(Of(a), 2))
}
