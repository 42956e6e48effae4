package well

import (
	"slices"
	"strings"
	"testing"

	"turntable/api"
	"turntable/graph"
	"turntable/made"
	"turntable/show"
)

// fault is something that is wrong, and when it is met: numbers that are held against each other one by one.
type fault struct {
	err  api.Err
	when []int
}

// faults is all that is wrong with a program, in no order: what is met first is found by holding them against each other.
type faults []fault

// add puts a fault to the others, if there is one.
func (l *faults) add(is bool, code api.Code, at int, when ...int) {
	if is {
		*l = append(*l, fault{err: api.Err{Code: code, At: at}, when: when})
	}
}

// first is the fault that is met first.
func (l faults) first() api.Err {
	if len(l) == 0 {
		return api.Err{}
	}
	return slices.MinFunc(l, func(a, b fault) int { return slices.Compare(a.when, b.when) }).err
}

// When what is met: numbers of the promises, and within a function of its parts.
const (
	ofNames = iota
	ofMain
	ofFuncs
)

const (
	ofFlow = iota
	ofMakes
	ofTakes
)

// search is what is wrong first with a program, by looking for everything.
func search(p api.Prog, source bool) api.Err {
	if e := show.Whole(p); e.Code != api.OK {
		return api.Err{Code: e.Code, At: p.Funcs[e.At].At}
	}
	l := faults{}
	mains := 0
	for k, f := range p.Funcs {
		for _, other := range p.Funcs[:k] {
			l.add(other.Name == f.Name, api.ErrTwice, f.At, ofNames, k)
		}
		if f.Name == "main" {
			mains++
			for _, t := range f.Params {
				l.add(t == api.TPtr, api.ErrArgs, f.At, ofMain, 1)
			}
		}
		l.flow(k, f)
		if graph.Shaped(f).Code == api.OK {
			l.makes(k, f, source)
			l.takes(k, f, p)
		}
	}
	l.add(mains == 0, api.ErrFunc, 0, ofMain, 0)
	return l.first()
}

// flow adds what is wrong with how blocks follow each other.
func (l *faults) flow(k int, f api.Func) {
	if e := graph.Shaped(f); e.Code != api.OK {
		l.add(true, e.Code, f.At, ofFuncs, k, ofFlow, 0)
		return
	}
	met := made.Search(f, 0, -1)
	for b := range f.Blocks {
		l.add(!met[b], api.ErrReach, f.At, ofFuncs, k, ofFlow, 1)
		l.add(slices.Contains(made.To(f, b), 0), api.ErrReach, f.At, ofFuncs, k, ofFlow, 1)
	}
}

// makes adds what is wrong with instructions, whatever they take.
func (l *faults) makes(k int, f api.Func, source bool) {
	var ids []int
	for value := range f.Params {
		ids = append(ids, value)
	}
	for b, block := range f.Blocks {
		for i, x := range block {
			at := func(n int) []int { return []int{ofFuncs, k, ofMakes, b, i, n} }
			l.add(x.Id >= 0 && slices.Contains(ids, x.Id), api.ErrTwice, x.At, at(0)...)
			if x.Id >= 0 {
				ids = append(ids, x.Id)
			}
			if x.Op == api.OPhi {
				come := made.From(made.Edges(f), b)
				named := slices.Sorted(slices.Values(x.To))
				l.add(!slices.Equal(come, named), api.ErrPhi, x.At, at(1)...)
				l.add(i > 0 && block[max(i, 1)-1].Op != api.OPhi, api.ErrPhi, x.At, at(1)...)
			}
			word := strings.Fields(show.Instr(x))
			put := slices.ContainsFunc(word, func(w string) bool {
				return w == "poll" || w == "mark" || strings.HasPrefix(w, "reloc.") || strings.HasPrefix(w, "@")
			})
			l.add(source && put, api.ErrWord, x.At, at(2)...)
		}
	}
}

// takes adds what is wrong with what instructions take.
func (l *faults) takes(k int, f api.Func, p api.Prog) {
	types := typed(f)
	missing := map[int][][]bool{}
	for b, block := range f.Blocks {
		for i, x := range block {
			at := func(n ...int) []int { return append([]int{ofFuncs, k, ofTakes, b, i}, n...) }
			kinds := l.whole(f, p, x, at)
			for a, value := range x.Args {
				_, there := types[value]
				l.add(!there, api.ErrValue, x.At, at(9, a, 0)...)
				l.add(a < len(kinds) && types[value] != kinds[a], api.ErrType, x.At, at(9, a, 1)...)
				if missing[value] == nil {
					missing[value] = missed(f, value)
				}
				from, place := b, i
				if x.Op == api.OPhi {
					from = x.To[a]
					place = -1
				}
				l.add(from < len(f.Blocks) && last(missing[value], from, place), api.ErrBefore, x.At, at(9, a, 2)...)
			}
		}
	}
}

// last is what is told of a place of a block; below 0: of its end.
func last(missed [][]bool, block, place int) bool {
	if block >= len(missed) {
		return false
	}
	if place < 0 {
		place = len(missed[block]) - 1
	}
	return missed[block][place]
}

// whole adds what is wrong with a call or a ret, and is the types that an instruction takes.
func (l *faults) whole(f api.Func, p api.Prog, x api.Instr, at func(...int) []int) []int {
	switch x.Op {
	case api.OCall:
		k := slices.IndexFunc(p.Funcs, func(f api.Func) bool { return f.Name == x.Name })
		l.add(k < 0, api.ErrFunc, x.At, at(0)...)
		if k < 0 {
			return nil
		}
		l.add(p.Funcs[k].Ret != x.Type, api.ErrType, x.At, at(1)...)
		l.add(len(p.Funcs[k].Params) != len(x.Args), api.ErrArgs, x.At, at(2)...)
		return p.Funcs[k].Params
	case api.ORet:
		l.add((f.Ret == api.TNone) != (len(x.Args) == 0), api.ErrArgs, x.At, at(0)...)
		return []int{f.Ret}
	case api.OPhi, api.OReloc:
		return slices.Repeat([]int{x.Type}, len(x.Args))
	}
	var kinds []int
	for _, letter := range taken(x.Op) {
		kinds = append(kinds, strings.IndexRune("nipd", letter))
	}
	return kinds
}

// taken is the letters of the types that an operation takes, told once more.
func taken(op int) string {
	switch op {
	case api.OAdd, api.OSub, api.OMul, api.ODiv, api.OLt, api.OEq:
		return "ii"
	case api.OSame, api.OStoreP:
		return "pp"
	case api.OLoadI, api.OLoadP, api.OSlot, api.OMark:
		return "p"
	case api.OStoreI:
		return "pi"
	case api.OGetI, api.OGetP:
		return "d"
	case api.OPutI:
		return "di"
	case api.OPutP:
		return "dp"
	case api.OOut, api.OIf:
		return "i"
	}
	return ""
}

// missed tells of each place of each block (also behind its last instruction) whether there is a way to it, instruction by instruction, on which a value is not made.
func missed(f api.Func, value int) [][]bool {
	met := make([][]bool, len(f.Blocks))
	for b, block := range f.Blocks {
		met[b] = make([]bool, len(block)+1)
	}
	if value < len(f.Params) {
		return met
	}
	var visit func(b, i int)
	visit = func(b, i int) {
		if met[b][i] {
			return
		}
		met[b][i] = true
		switch {
		case i == len(f.Blocks[b]):
			for _, next := range made.To(f, b) {
				visit(next, 0)
			}
		case f.Blocks[b][i].Id != value:
			visit(b, i+1)
		}
	}
	visit(0, 0)
	return met
}

// hold holds what is answered of a program against the search.
func hold(t *testing.T, p api.Prog) (api.Code, api.Code) {
	t.Helper()
	source, built := search(p, true), search(p, false)
	must(t, p, source, built)
	return source.Code, built.Code
}

// Promises 11.3 to 11.8: programs by chance, with nothing, one thing, or more made otherwise.
func TestByChance(t *testing.T) {
	met, metMade := map[api.Code]int{}, map[api.Code]int{}
	eachProgram(20000, func(m *made.Maker, p api.Prog, _ bool) {
		for range m.Intn(4) {
			spoil(m, p)
		}
		source, built := hold(t, p)
		met[source]++
		metMade[built]++
	})
	for _, code := range []api.Code{api.OK, api.ErrTwice, api.ErrFunc, api.ErrArgs, api.ErrEnd, api.ErrLabel, api.ErrReach, api.ErrPhi, api.ErrType, api.ErrValue, api.ErrBefore, api.ErrWord} {
		if met[code] < 50 || metMade[code] < 50 && code != api.ErrWord {
			t.Errorf("the code %d was met %d and %d times: too few", code, met[code], metMade[code])
		}
	}
}

// Promises 11.3, 11.5 and 11.8: each function of up to three blocks, and of four, with a value that one of them makes, and one of them takes.
func TestEachFlow(t *testing.T) {
	for blocks := 1; blocks <= 4; blocks++ {
		made.All(blocks, blocks < 3, func(f api.Func) {
			if blocks == 4 && !all4(f) {
				return
			}
			for maker := range blocks {
				for taker := range blocks {
					hold(t, api.Prog{Funcs: []api.Func{passing(f, maker, taker)}})
				}
			}
		})
	}
}

// all4 tells whether all blocks of a function are reached, and nobody goes to block 0: of others of four blocks there are many, and they are told of alike.
func all4(f api.Func) bool {
	return !slices.Contains(made.Search(f, 0, -1), false) && len(made.From(made.Edges(f), 0)) == 0
}

// passing is a function with a value that a block makes, and another one takes, and goes to its end with.
func passing(f api.Func, maker, taker int) api.Func {
	g := api.Func{Name: "main", Params: f.Params, At: 1}
	at := 1
	put := func(k int, list ...api.Instr) {
		for _, x := range list {
			at++
			x.At = at
			g.Blocks[k] = append(g.Blocks[k], x)
		}
	}
	for k, block := range f.Blocks {
		g.Blocks = append(g.Blocks, nil)
		if come := made.From(made.Edges(f), k); k == taker && len(come) > 0 {
			put(k, api.Instr{Op: api.OPhi, Id: 8, Type: api.TInt, To: come, Args: slices.Repeat([]int{9}, len(come))})
		}
		if k == taker && taker != maker {
			put(k, api.Instr{Op: api.OOut, Id: -1, Args: []int{9}})
		}
		if k == maker {
			put(k, api.Instr{Op: api.OConst, Id: 9})
		}
		put(k, block...)
	}
	return g
}
