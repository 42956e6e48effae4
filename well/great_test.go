package well

import (
	"slices"
	"strconv"
	"testing"

	"turntable/api"
)

// constants is so many constants, from a number on, each at its own place.
func constants(from, count int) []api.Instr {
	var list []api.Instr
	for i := range count {
		list = append(list, api.Instr{Op: api.OConst, Id: from + i, At: 1 + from + i})
	}
	return list
}

// ret is an instruction that ends a function.
func ret(at int, args ...int) api.Instr {
	return api.Instr{Op: api.ORet, Id: -1, Args: args, At: at}
}

// Promise 11.3: as many functions as there may be, of as many parameters, that call each other; and one more.
func TestMostFuncs(t *testing.T) {
	p := api.Prog{}
	numbers := []int{0, 1, 2, 3, 4, 5, 6, 7}
	for k := range api.MaxFuncs {
		f := api.Func{Name: "f" + strconv.Itoa(k), Params: slices.Repeat([]int{api.TInt}, api.MaxParams), Ret: api.TInt, At: 100 * k}
		next := "f" + strconv.Itoa(k+1)
		if k == api.MaxFuncs-1 {
			f.Name, next = "main", "f0"
		} else if k == api.MaxFuncs-2 {
			next = "main"
		}
		f.Blocks = [][]api.Instr{{{Op: api.OCall, Id: 8, Type: api.TInt, Name: next, Args: numbers, At: 100*k + 1}, ret(100*k+2, 8)}}
		p.Funcs = append(p.Funcs, f)
	}
	must(t, p, api.Err{}, api.Err{})
	bad := api.Prog{Funcs: slices.Clone(p.Funcs)}
	bad.Funcs[31].Blocks = [][]api.Instr{{{Op: api.OCall, Id: 8, Type: api.TInt, Name: "f31", Args: numbers, At: 3101}, ret(3102, 8)}}
	must(t, bad, api.Err{Code: api.ErrFunc, At: 3101}, api.Err{Code: api.ErrFunc, At: 3101})
	bad.Funcs[31] = p.Funcs[31]
	bad.Funcs = append(bad.Funcs, api.Func{Name: "more", At: 9999})
	must(t, bad, api.Err{Code: api.ErrLimit, At: 9999}, api.Err{Code: api.ErrLimit, At: 9999})
}

// Promise 11.3: as many instructions as there may be in a block; and one more.
func TestMostInstrs(t *testing.T) {
	f := api.Func{Name: "main", At: 7, Blocks: [][]api.Instr{append(constants(0, api.MaxInstrs-1), ret(9999))}}
	must(t, api.Prog{Funcs: []api.Func{f}}, api.Err{}, api.Err{})
	block := slices.Clone(f.Blocks[0])
	block[api.MaxInstrs-2].Id = 0
	f.Blocks = [][]api.Instr{block}
	must(t, api.Prog{Funcs: []api.Func{f}}, api.Err{Code: api.ErrTwice, At: api.MaxInstrs - 1}, api.Err{Code: api.ErrTwice, At: api.MaxInstrs - 1})
	block[api.MaxInstrs-2] = api.Instr{Op: api.OOut, Id: -1, Args: []int{api.MaxInstrs - 2}, At: 8888}
	must(t, api.Prog{Funcs: []api.Func{f}}, api.Err{Code: api.ErrValue, At: 8888}, api.Err{Code: api.ErrValue, At: 8888})
	block[api.MaxInstrs-2].Args[0] = api.MaxInstrs - 3
	must(t, api.Prog{Funcs: []api.Func{f}}, api.Err{}, api.Err{})
	f.Blocks = [][]api.Instr{append(constants(0, api.MaxInstrs), ret(9999))}
	must(t, api.Prog{Funcs: []api.Func{f}}, api.Err{Code: api.ErrLimit, At: 7}, api.Err{Code: api.ErrLimit, At: 7})
}

// ladder is a function of as many blocks as there may be, each of which goes to the next one, and to the last one.
func ladder() api.Func {
	f := api.Func{Name: "main", Params: []int{api.TInt}, At: 7}
	end := api.MaxBlocks - 1
	for k := range end {
		f.Blocks = append(f.Blocks, []api.Instr{{Op: api.OConst, Id: 1000 + k, At: 1000 + k}, {Op: api.OIf, Id: -1, Args: []int{0}, To: []int{k + 1, end}, At: 2000 + k}})
	}
	f.Blocks = append(f.Blocks, []api.Instr{ret(5000)})
	return f
}

// Promises 11.6 and 11.7: as many blocks as there may be come to one, which has as many phis as there may be.
func TestMostPhis(t *testing.T) {
	f := ladder()
	end := api.MaxBlocks - 1
	var to, own, first []int
	for k := range end {
		to, own, first = append(to, k), append(own, 1000+k), append(first, 1000)
	}
	var phis []api.Instr
	for i := range api.MaxInstrs - 2*end - 1 {
		args := own
		if i%2 == 1 {
			args = first
		}
		phis = append(phis, api.Instr{Op: api.OPhi, Id: 10000 + i, Type: api.TInt, To: to, Args: args, At: 10000 + i})
	}
	f.Blocks[end] = append(phis, ret(5000))
	must(t, api.Prog{Funcs: []api.Func{f}}, api.Err{}, api.Err{})
	last := &f.Blocks[end][len(phis)-1]
	for code, args := range map[api.Code][]int{api.ErrBefore: slices.Clone(own), api.ErrValue: slices.Clone(own)} {
		args[end-2] = 1000 + end - 1
		if code == api.ErrValue {
			args[end-2] = 1000 + end
		}
		last.Args = args
		must(t, api.Prog{Funcs: []api.Func{f}}, api.Err{Code: code, At: last.At}, api.Err{Code: code, At: last.At})
	}
	last.To, last.Args = append(slices.Clone(to[1:]), 1), own
	must(t, api.Prog{Funcs: []api.Func{f}}, api.Err{Code: api.ErrPhi, At: last.At}, api.Err{Code: api.ErrPhi, At: last.At})
	last.To, last.Args = slices.Repeat(to, 100), slices.Repeat(own, 100)
	must(t, api.Prog{Funcs: []api.Func{f}}, api.Err{Code: api.ErrPhi, At: last.At}, api.Err{Code: api.ErrPhi, At: last.At})
}

// Promise 11.7: a long way of blocks, in the order in which they stand and the other way round: what the first one makes the last one takes, and not the other way round.
func TestMostBlocks(t *testing.T) {
	for _, back := range []bool{false, true} {
		place := func(k int) int {
			if back && k > 0 {
				return api.MaxBlocks - k
			}
			return k
		}
		f := api.Func{Name: "main", At: 7, Blocks: make([][]api.Instr, api.MaxBlocks)}
		for k := range api.MaxBlocks {
			f.Blocks[place(k)] = []api.Instr{{Op: api.OConst, Id: k, At: 1000 + k}, {Op: api.OBr, Id: -1, To: []int{place(min(k+1, api.MaxBlocks-1))}, At: 2000 + k}}
		}
		last := place(api.MaxBlocks - 1)
		f.Blocks[last] = []api.Instr{{Op: api.OAdd, Id: 5000, Args: []int{0, api.MaxBlocks - 2}, At: 3000}, ret(3001)}
		must(t, api.Prog{Funcs: []api.Func{f}}, api.Err{}, api.Err{})
		f.Blocks[place(1)][0] = api.Instr{Op: api.OAdd, Id: 1, Args: []int{0, api.MaxBlocks - 2}, At: 1001}
		must(t, api.Prog{Funcs: []api.Func{f}}, api.Err{Code: api.ErrBefore, At: 1001}, api.Err{Code: api.ErrBefore, At: 1001})
		f.Blocks = append(f.Blocks, []api.Instr{ret(1)})
		must(t, api.Prog{Funcs: []api.Func{f}}, api.Err{Code: api.ErrLimit, At: 7}, api.Err{Code: api.ErrLimit, At: 7})
	}
}
