package base

import (
	"reflect"
	"slices"
	"testing"

	"turntable/api"
	"turntable/made"
	"turntable/show"
)

// values is a function's values, as they are made.
func values(f api.Func) []int {
	var list []int
	for value := range f.Params {
		list = append(list, value)
	}
	for _, block := range f.Blocks {
		for _, x := range block {
			if x.Id != -1 {
				list = append(list, x.Id)
			}
		}
	}
	return list
}

// greatest is a function's greatest value; -1, if it has none.
func greatest(f api.Func) int { return slices.Max(append(values(f), -1)) }

// maker is the instruction that makes a value, and how many phis of pointers into objects stand ahead of that; nothing, if none does.
func maker(f api.Func, value int) (api.Instr, int) {
	ahead := 0
	for _, x := range slices.Concat(f.Blocks...) {
		if x.Id == value {
			return x, ahead
		}
		if x.Op == api.OPhi && x.Type == api.TDer {
			ahead++
		}
	}
	return api.Instr{}, 0
}

// belongs is that to which a value belongs, as the chapter tells it of one alone; -1, if it is no pointer into an object.
func belongs(f api.Func, value int) int {
	switch x, ahead := maker(f, value); {
	case x.Op == api.OSlot:
		return x.Args[0]
	case x.Op == api.OPhi && x.Type == api.TDer:
		return greatest(f) + 1 + ahead
	}
	return -1
}

// told is what Of answers, told once more: value by value, and with the phis put in from the last one on.
func told(f api.Func) (api.Func, []api.Pair) {
	g := made.Bare(f)
	for k, block := range g.Blocks {
		for i, x := range slices.Backward(block) {
			if x.Op != api.OPhi || x.Type != api.TDer {
				continue
			}
			y := api.Instr{Op: api.OPhi, Id: belongs(f, x.Id), Type: api.TPtr, To: x.To, At: x.At}
			for _, value := range x.Args {
				y.Args = append(y.Args, belongs(f, value))
			}
			block = slices.Insert(block, i+1, y)
		}
		g.Blocks[k] = block
	}
	var pairs []api.Pair
	for _, value := range slices.Sorted(slices.Values(values(f))) {
		if base := belongs(f, value); base != -1 {
			pairs = append(pairs, api.Pair{Der: value, Base: base})
		}
	}
	return g, pairs
}

// hold holds all that is answered of a function against what is told.
func hold(t *testing.T, f api.Func) {
	t.Helper()
	got, pairs := Of(f)
	want, wanted := told(f)
	if !reflect.DeepEqual(made.Bare(got), want) {
		t.Fatalf("Of is\n%s, want\n%s, of\n%s", show.Func(got), show.Func(want), show.Func(f))
	}
	if !slices.Equal(pairs, wanted) {
		t.Fatalf("the pairs are %s, want %s, of\n%s", words(pairs), words(wanted), show.Func(f))
	}
	if fresh := Fresh(f); fresh != greatest(f)+1 {
		t.Fatalf("Fresh is %d, want %d, of\n%s", fresh, greatest(f)+1, show.Func(f))
	}
	for _, value := range append(values(f), -1, greatest(f)+1, api.MaxValue) {
		if base := Find(pairs, value); base != belongs(f, value) {
			t.Fatalf("%d belongs to %d, want %d, of\n%s", value, base, belongs(f, value), show.Func(f))
		}
	}
	if c := Copy(f); !reflect.DeepEqual(made.Bare(c), made.Bare(f)) {
		t.Fatalf("Copy is\n%s, of\n%s", show.Func(c), show.Func(f))
	}
}

// met is how often something was met of what is to be held.
type met struct{ functions, without, slots, phis, second, takesPhi, takesOwn, others, fallen int }

// look counts what is met in a function.
func (n *met) look(f api.Func, pairs []api.Pair) {
	n.functions++
	if len(pairs) == 0 {
		n.without++
	}
	joined := 0
	for _, block := range f.Blocks {
		for i, x := range block {
			if x.Op == api.OSlot {
				n.slots++
			}
			if x.Op != api.OPhi || x.Type != api.TDer {
				continue
			}
			joined++
			n.phis++
			if i > 0 && block[i-1].Type == api.TDer {
				n.second++
			}
			if i > 0 && block[i-1].Type != api.TDer {
				n.others++
			}
			for _, value := range x.Args {
				if y, _ := maker(f, value); value == x.Id {
					n.takesOwn++
				} else if y.Op == api.OPhi {
					n.takesPhi++
				}
			}
		}
	}
	if !slices.IsSorted(values(f)) && len(pairs) > 1 && joined > 0 {
		n.fallen++
	}
}

// Promises 15.1 to 15.3: functions by chance, held against what is told.
func TestByChance(t *testing.T) {
	var n met
	eachFunction(t, 6000, func(_ *made.Maker, f api.Func) {
		hold(t, f)
		_, pairs := Of(f)
		n.look(f, pairs)
	})
	// What is never met would not be held.
	if least := min(n.functions, n.without, n.slots, n.phis, n.second, n.takesPhi, n.takesOwn, n.others, n.fallen); least < 500 {
		t.Errorf("%+v", n)
	}
}

// without is a function without the phis whose values are greater than all of another one's.
func without(g api.Func, greatest int) api.Func {
	g = made.Bare(g)
	for k, block := range g.Blocks {
		g.Blocks[k] = slices.DeleteFunc(block, func(x api.Instr) bool { return x.Op == api.OPhi && x.Id > greatest })
	}
	return g
}

// Promise 15.4: nothing else is done: without the phis that were put in the function is what it was; where none is, it is that at once.
func TestNothingElse(t *testing.T) {
	same := 0
	eachFunction(t, 3000, func(_ *made.Maker, f api.Func) {
		g, _ := Of(f)
		if left := without(g, greatest(f)); !reflect.DeepEqual(left, made.Bare(f)) {
			t.Fatalf("without what was put in\n%s, of\n%s", show.Func(left), show.Func(f))
		}
		if Fresh(g) == Fresh(f) {
			same++
			if !reflect.DeepEqual(made.Bare(g), made.Bare(f)) {
				t.Fatalf("Of is\n%s, of\n%s", show.Func(g), show.Func(f))
			}
		}
	})
	if same < 500 || same > 5500 {
		t.Errorf("%d functions stay as they are", same)
	}
}
