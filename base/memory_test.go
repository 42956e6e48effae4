package base

import (
	"reflect"
	"slices"
	"sync"
	"testing"

	"turntable/api"
	"turntable/made"
	"turntable/show"
)

// mustBe holds that a function is the same as another one.
func mustBe(t *testing.T, when string, got, want api.Func) {
	t.Helper()
	if got, want := made.Bare(got), made.Bare(want); !reflect.DeepEqual(got, want) {
		t.Fatalf("%s:\n%s, want\n%s", when, show.Func(got), show.Func(want))
	}
}

// mustPair holds that pairs are the same as others.
func mustPair(t *testing.T, when string, got, want []api.Pair) {
	t.Helper()
	if !slices.Equal(got, want) {
		t.Fatalf("%s: the pairs are %s, want %s", when, words(got), words(want))
	}
}

// R3: what lies behind a list's length is neither read, nor written, nor handed out, and nothing that is handed in is changed.
func TestOwnMemory(t *testing.T) {
	m := made.New(1)
	for range 1000 {
		f := one(m)
		want, pairs := told(f)
		full := made.Loaded(f)
		before := made.Whole(full)
		for range 2 {
			g, l := Of(full)
			mustBe(t, "Of, of lists with others behind them", g, want)
			mustPair(t, "Of, of lists with others behind them", l, pairs)
			c := Copy(full)
			mustBe(t, "Copy, of lists with others behind them", c, f)
			if Fresh(full) != greatest(f)+1 {
				t.Fatalf("Fresh, of lists with others behind them: %d", Fresh(full))
			}
			made.Spoil(g)
			made.Spoil(c)
			made.Fill(l, api.Pair{Der: 77, Base: 77})
			if !reflect.DeepEqual(made.Whole(full), before) {
				t.Fatalf("what was handed in was changed: %v", full)
			}
		}
	}
}

// R3: a caller who writes into what it gave changes nothing that was answered.
func TestNotKept(t *testing.T) {
	m := made.New(2)
	for range 1000 {
		f := one(m)
		want, pairs := told(f)
		given := made.Loaded(f)
		g, l := Of(given)
		c := Copy(given)
		made.Spoil(given)
		mustBe(t, "Of, behind writing into what was given", g, want)
		mustPair(t, "Of, behind writing into what was given", l, pairs)
		mustBe(t, "Copy, behind writing into what was given", c, f)
	}
}

// numbered writes a number of its own into each element of all lists of numbers of a function, and answers these lists, and what they hold then.
func numbered(f api.Func) ([][]int, [][]int) {
	lists := [][]int{f.Params}
	for _, block := range f.Blocks {
		for _, x := range block {
			lists = append(lists, x.Args, x.To)
		}
	}
	next := 0
	for _, l := range lists {
		for i := range l {
			next++
			l[i] = next
		}
	}
	var held [][]int
	for _, l := range lists {
		held = append(held, slices.Clone(l))
	}
	return lists, held
}

// mustLieApart holds that no two lists of a function share memory, neither in what they hold nor behind it.
func mustLieApart(t *testing.T, call string, f api.Func) {
	t.Helper()
	lists, held := numbered(f)
	next := 0
	for n, l := range lists {
		for i, value := range l {
			if next++; value != next {
				t.Fatalf("%s: element %d of list %d was written to by another one: %d", call, i, n, value)
			}
		}
		_ = append(l, -7, -7, -7)
	}
	if !reflect.DeepEqual(lists, held) {
		t.Fatalf("%s: longer lists write into others: %v, want %v", call, lists, held)
	}
	blocks := made.Bare(f)
	for k, block := range f.Blocks {
		_ = append(block, api.Instr{Op: 77}, api.Instr{Op: 77})
		made.Fill(block, api.Instr{Op: 78, Id: k})
	}
	for k, block := range f.Blocks {
		if len(block) != len(blocks.Blocks[k]) || slices.ContainsFunc(block, func(x api.Instr) bool { return x.Op != 78 || x.Id != k }) {
			t.Fatalf("%s: block %d was written to by another one: %v", call, k, block)
		}
	}
}

// R3: no two lists that were answered share memory, also those of a phi and of the one that is put in beside it.
func TestListsApart(t *testing.T) {
	m := made.New(3)
	for range 1000 {
		f := one(m)
		g, _ := Of(f)
		mustLieApart(t, "Of", g)
		mustLieApart(t, "Copy", Copy(f))
	}
}

// Ways: the instructions of a block that is handed back have no room behind them, also where what was given had.
func TestNoRoomBehind(t *testing.T) {
	m := made.New(4)
	blocks := 0
	for range 1000 {
		f := one(m)
		for _, given := range []api.Func{f, made.Loaded(f)} {
			g, _ := Of(given)
			for k := range g.Blocks {
				for _, block := range [][]api.Instr{g.Blocks[k], Copy(given).Blocks[k]} {
					blocks++
					if len(block) == 0 || cap(block) != len(block) {
						t.Fatalf("block %d has %d instructions, and room for %d", k, len(block), cap(block))
					}
				}
			}
		}
	}
	if blocks < 5000 {
		t.Errorf("only %d blocks", blocks)
	}
}

// Ways: what two callers put behind one block does not meet.
func TestPutBehind(t *testing.T) {
	f, _ := Of(read(t, made.IntoExample))
	for _, block := range f.Blocks {
		one := append(block, api.Instr{Op: api.OPoll, N: 1})
		two := append(block, api.Instr{Op: api.OPoll, N: 2})
		if n := len(block); one[n].N != 1 || two[n].N != 2 {
			t.Errorf("%v and %v", one[n], two[n])
		}
	}
}

// Promise 15.3: Alone is the same instruction, in new memory: neither of both is changed by writing into the other one.
func TestAlone(t *testing.T) {
	x := api.Instr{Op: api.OCall, Id: 7, N: 9, Type: api.TPtr, Args: []int{3, 4}, To: []int{5, 6}, Name: "f", At: 12}
	want := api.Instr{Op: api.OCall, Id: 7, N: 9, Type: api.TPtr, Args: []int{3, 4}, To: []int{5, 6}, Name: "f", At: 12}
	given := x
	given.Args, given.To = made.Behind(x.Args, 66, 67), made.Behind(x.To, 68)
	y, z := Alone(given), Alone(given)
	for _, got := range []api.Instr{y, z} {
		if !reflect.DeepEqual(got, want) {
			t.Errorf("%v, want %v", got, want)
		}
	}
	made.Fill(y.Args, 77)
	made.Fill(y.To, 77)
	_, _ = append(y.Args, 78), append(y.To, 78)
	if !reflect.DeepEqual(given, want) || !reflect.DeepEqual(z, want) || given.Args[:3][2] != 66 || given.To[:3][2] != 68 {
		t.Errorf("%v and %v, want %v", given, z, want)
	}
	made.Fill(given.Args, 79)
	made.Fill(given.To, 79)
	if !reflect.DeepEqual(z, want) {
		t.Errorf("%v, want %v", z, want)
	}
}

// Promise 15.3: Alone of each instruction of functions by chance.
func TestAloneByChance(t *testing.T) {
	m := made.New(5)
	for range 500 {
		f := one(m)
		full := made.Loaded(f)
		before := made.Whole(full)
		var all [][]api.Instr
		for _, block := range full.Blocks {
			var l []api.Instr
			for _, x := range block {
				y := Alone(x)
				l = append(l, Alone(x))
				made.Fill(y.Args, 77)
				made.Fill(y.To, 77)
			}
			all = append(all, l)
		}
		if !reflect.DeepEqual(made.Whole(full), before) {
			t.Fatalf("what was handed in was changed: %v", full)
		}
		made.Spoil(full)
		g := f
		g.Blocks = all
		mustBe(t, "instruction by instruction", g, f)
	}
}

// Promise 15.3: Copy is the same function, in new memory; nothing is put in.
func TestCopy(t *testing.T) {
	for _, text := range []string{made.Example, made.IntoExample, "func main() n { b0: ret }", "func main(i i) n { b0: poll 3 call.n @4 main %0 %1 fail 9 }"} {
		f := read(t, text)
		c := Copy(f)
		mustBe(t, "Copy", c, f)
		want := made.Bare(f)
		made.Spoil(c)
		mustBe(t, "Copy written to", f, want)
	}
	mustBe(t, "Copy of nothing", Copy(api.Func{}), api.Func{})
	full := program(t, "func main() n { b0: ret } func f(p i) p { b0: ret %0 }").Funcs[1]
	if c := Copy(full); c.Name != "f" || c.Ret != api.TPtr || c.At != full.At || full.At == 0 || !slices.Equal(c.Params, []int{api.TPtr, api.TInt}) {
		t.Errorf("%+v", c)
	}
}

// R3: With neither changes nor keeps what it is given, nor reads or writes behind it, and what it answers is nobody else's.
func TestWithMemory(t *testing.T) {
	pairs := pairsOf("3>1 4>10 5>1")
	for _, values := range [][]int{nil, {}, {1, 2}, {3}, {3, 4, 5}, {1, 3, 4, 5, 10}, {20}} {
		want := With(values, pairs)
		l, p := made.Behind(values, 4, 5, 3), made.Behind(pairs, api.Pair{Der: 20, Base: 21}, api.Pair{Der: 1, Base: 0})
		given, paired := slices.Clone(l[:cap(l)]), slices.Clone(p[:cap(p)])
		first, second := With(l, p), With(l, p)
		_ = append(first, 99, 98)
		made.Fill(first, 77)
		if !slices.Equal(l[:cap(l)], given) || !slices.Equal(p[:cap(p)], paired) {
			t.Errorf("what was handed in was changed: %v, %v", l[:cap(l)], p[:cap(p)])
		}
		made.Fill(l, 88)
		made.Fill(p, api.Pair{Der: 88, Base: 88})
		if !slices.Equal(second, want) {
			t.Errorf("%v, want %v", second, want)
		}
	}
}

// R3: Find reads nothing behind the pairs, and writes nothing.
func TestFindMemory(t *testing.T) {
	pairs := pairsOf("3>1 4>10")
	l := made.Behind(pairs, api.Pair{Der: 7, Base: 2}, api.Pair{Der: 9, Base: 2})
	before := slices.Clone(l[:cap(l)])
	for der := range 12 {
		if got := Find(l, der); got != Find(pairs, der) || der > 4 && got != -1 {
			t.Errorf("%d belongs to %d", der, got)
		}
	}
	if !slices.Equal(l[:cap(l)], before) {
		t.Errorf("%v, want %v", l[:cap(l)], before)
	}
}

// R3: lists that are nil and lists without elements are the same.
func TestNilAndEmpty(t *testing.T) {
	f := read(t, "func main() n { b0: %0 = new i %1 = slot %0 0 poll 3 br b1 b1: %2 = phi.d b0 %1 ret }")
	g := made.Bare(f)
	g.Params = []int{}
	for _, block := range g.Blocks {
		for i, x := range block {
			block[i].Args, block[i].To = append([]int{}, x.Args...), append([]int{}, x.To...)
		}
	}
	want, pairs := told(f)
	got, l := Of(g)
	mustBe(t, "with empty lists", got, want)
	mustPair(t, "with empty lists", l, pairs)
	mustBe(t, "with empty lists", Copy(g), f)
	if Find([]api.Pair{}, 1) != -1 || Find(nil, 1) != -1 || len(With([]int{}, []api.Pair{})) > 0 || len(With(nil, nil)) > 0 {
		t.Error("without pairs something belongs to something")
	}
}

// P6: the same function, the same answer: asked again, and by several at the same time.
func TestSameAgain(t *testing.T) {
	m := made.New(6)
	for range 50 {
		f := one(m)
		want, pairs := told(f)
		var all sync.WaitGroup
		funcs, lists := make([]api.Func, 8), make([][]api.Pair, 8)
		for i := range funcs {
			all.Go(func() { funcs[i], lists[i] = Of(f) })
		}
		all.Wait()
		for i := range funcs {
			mustBe(t, "side by side", funcs[i], want)
			mustPair(t, "side by side", lists[i], pairs)
		}
	}
}

// Of functions that no program has that may be run, and of relocs, nothing is promised; the calls end there, too.
func TestAnything(t *testing.T) {
	m := made.New(7)
	for range 3000 {
		f := made.Bare(one(m))
		for k, block := range f.Blocks {
			for i := range block {
				if m.Intn(4) == 0 {
					block[i] = api.Instr{Op: m.Intn(33) - 1, Id: m.Intn(12) - 3, Type: m.Intn(6) - 1, Args: m.Labels(m.Intn(4), 9), To: m.Labels(m.Intn(4), 12)}
				}
			}
			if m.Intn(9) == 0 {
				f.Blocks[k] = nil
			}
		}
		g, pairs := Of(f)
		again, same := Of(f)
		mustBe(t, "asked again", again, g)
		mustPair(t, "asked again", same, pairs)
		mustBe(t, "Copy", Copy(f), f)
		Fresh(g)
		With(m.Labels(5, 12), pairs)
	}
	for _, f := range []api.Func{{}, {Params: []int{api.TPtr}}, {Blocks: [][]api.Instr{nil}}, {Blocks: [][]api.Instr{{{}}}}} {
		g, pairs := Of(f)
		mustBe(t, "of next to nothing", g, f)
		mustPair(t, "of next to nothing", pairs, nil)
	}
}
