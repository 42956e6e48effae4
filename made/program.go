package made

import (
	"math"
	"slices"
	"strconv"

	"turntable/api"
)

// row is what an operation takes, and what it makes, by the letters of types.
type row struct {
	op    int
	takes string
	makes string
}

// rows is the operations whose types hang on nothing else. They are told here once more: what the layers tell of them is held against it.
var rows = [...]row{
	{api.OConst, "", "i"}, {api.OAdd, "ii", "i"}, {api.OSub, "ii", "i"}, {api.OMul, "ii", "i"}, {api.ODiv, "ii", "i"}, {api.OLt, "ii", "i"}, {api.OEq, "ii", "i"},
	{api.ONil, "", "p"}, {api.OSame, "pp", "i"}, {api.ONew, "", "p"}, {api.OLoadI, "p", "i"}, {api.OLoadP, "p", "p"}, {api.OStoreI, "pi", ""}, {api.OStoreP, "pp", ""},
	{api.OSlot, "p", "d"}, {api.OGetI, "d", "i"}, {api.OGetP, "d", "p"}, {api.OPutI, "di", ""}, {api.OPutP, "dp", ""}, {api.OOut, "i", ""},
}

// The rows of operations that are put in later.
var laterRows = [...]row{{api.OPoll, "", ""}, {api.OMark, "p", ""}, {api.OReloc, "p", "p"}, {api.OReloc, "d", "d"}}

// letters is the letters of the types, each in its type's place.
const letters = "nipd"

// kindOf is the type of a letter.
func kindOf(letter byte) int {
	for t := range len(letters) {
		if letters[t] == letter {
			return t
		}
	}
	return api.TNone
}

// Program is a program that may be run, of so many functions, each of which has at most so many blocks; later tells whether it has instructions, too, that are put in later. Its functions and instructions stand in places unlike each other.
func (m *Maker) Program(funcs, blocks int, later bool) api.Prog {
	heads := m.heads(funcs)
	p := api.Prog{}
	at := m.Intn(9)
	for _, f := range heads {
		f = m.body(heads, f, 1+m.Intn(blocks), later)
		f.At = at
		for _, block := range f.Blocks {
			for i := range block {
				at += 1 + m.Intn(9)
				block[i].At = at
			}
		}
		at += 1 + m.Intn(9)
		p.Funcs = append(p.Funcs, f)
	}
	return p
}

// heads is functions without blocks, one of which is main; that takes no pointers.
func (m *Maker) heads(count int) []api.Func {
	list := make([]api.Func, count)
	begins := m.Intn(count)
	for k := range list {
		f := api.Func{Name: "f" + strconv.Itoa(k), Ret: m.Intn(3)}
		for range m.Intn(4) {
			f.Params = append(f.Params, m.One([]int{api.TInt, api.TPtr}))
		}
		if k == begins {
			f.Name, f.Params = "main", slices.Repeat([]int{api.TInt}, len(f.Params))
		}
		list[k] = f
	}
	return list
}

// Ways is what each of at most so many blocks goes to, where all are reached, nobody goes to block 0, and none goes to more than two.
func (m *Maker) Ways(blocks int) [][]int {
	if blocks == 1 {
		return [][]int{nil}
	}
	var edges [][]int
	switch m.Intn(3) {
	case 0:
		edges = m.Edges(blocks - 1)
	case 1:
		edges = m.Mixed(m.Near(blocks - 1))
	default:
		edges = m.Mixed(m.Nested(blocks - 1))
	}
	ways := [][]int{m.Labels(1+m.Intn(2), blocks-1)}
	ways = append(ways, edges...)
	for k, l := range ways {
		l = slices.Clone(l[:min(len(l), 2)])
		for i := range l {
			l[i]++
		}
		ways[k] = l
	}
	return kept(ways)
}

// kept is edges without the blocks that are not reached; the others have the numbers that are left.
func kept(edges [][]int) [][]int {
	other := make([]int, len(edges))
	count := 0
	met := Search(Flow(edges...), 0, -1)
	for k := range edges {
		other[k] = count
		if met[k] {
			count++
		}
	}
	var out [][]int
	for k, l := range edges {
		if !met[k] {
			continue
		}
		for i := range l {
			l[i] = other[l[i]]
		}
		out = append(out, l)
	}
	return out
}

// number is a number, mostly a small one.
func (m *Maker) number() int64 {
	if m.Intn(8) == 0 {
		return []int64{math.MinInt64, math.MinInt64 + 1, math.MaxInt64, 1 << 32, -1 << 31}[m.Intn(5)]
	}
	return int64(m.Intn(9) - 2)
}

// shape is the letters of a shape, mostly of a small one.
func (m *Maker) shape() string {
	slots := m.Intn(4)
	if m.Intn(12) == 0 {
		slots = api.MaxSlots
	}
	if slots == 0 {
		return "."
	}
	text := make([]byte, slots)
	for i := range text {
		text[i] = "ip"[m.Intn(2)]
	}
	return string(text)
}
