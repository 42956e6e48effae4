package live

import (
	"slices"

	"turntable/api"
	"turntable/graph"
	"turntable/ops"
)

// look is a function that is looked at: its values that are taken anywhere, rising (no other one is ever live), of each block what phis of others take at its end, and a row of what is known so far.
type look struct {
	f      api.Func
	values []int
	succs  [][]int
	preds  [][]int
	joined []set
	rows   [][]set
}

// begun is a look at a function of which nothing is known yet but which phis take what.
func begun(f api.Func) *look {
	l := &look{f: f, values: taken(f), succs: graph.Succs(f), preds: graph.Preds(f)}
	for _, block := range f.Blocks {
		l.joined = append(l.joined, empty(len(l.values)))
		row := make([]set, len(block)+1)
		for place := range row {
			row[place] = empty(len(l.values))
		}
		l.rows = append(l.rows, row)
	}
	for _, block := range f.Blocks {
		for _, x := range phis(block) {
			l.join(x)
		}
	}
	return l
}

// taken is the values that any instruction takes, rising, none twice.
func taken(f api.Func) []int {
	var values []int
	for _, block := range f.Blocks {
		for _, x := range block {
			values = append(values, x.Args...)
		}
	}
	slices.Sort(values)
	return slices.Compact(values)
}

// phis is the phis of a block.
func phis(block []api.Instr) []api.Instr {
	count := 0
	for count < len(block) && block[count].Op == api.OPhi {
		count++
	}
	return block[:count]
}

// join notes what a phi takes, each value at the end of the block from which it comes.
func (l *look) join(x api.Instr) {
	for i, from := range x.To {
		if from >= 0 && from < len(l.joined) && i < len(x.Args) {
			l.take(l.joined[from], x.Args[i])
		}
	}
}

// take puts a value that an instruction takes into what is live; so it is one of those that are taken anywhere.
func (l *look) take(now set, value int) {
	n, _ := slices.BinarySearch(l.values, value)
	now.add(n)
}

// unmake puts what an instruction makes out of what is live: ahead of it that is not there yet.
func (l *look) unmake(now set, x api.Instr) {
	if ops.Makes(x) == api.TNone {
		return
	}
	if n, there := slices.BinarySearch(l.values, x.Id); there {
		now.drop(n)
	}
}

// settle looks at all blocks, and again at those that go to a block ahead of which more was found to be live, until there are none. It goes against the order: so mostly what follows a block is known ahead of it.
func (l *look) settle() {
	order := graph.Order(l.f)
	round, again := make(map[int]struct{}), make(map[int]struct{})
	for _, k := range order {
		round[k] = struct{}{}
	}
	for len(round) > 0 {
		for _, k := range slices.Backward(order) {
			if _, in := round[k]; in && l.grows(k) {
				for _, from := range l.preds[k] {
					again[from] = struct{}{}
				}
			}
		}
		clear(round)
		round, again = again, round
	}
}

// grows works out a block's row by what is known of those behind it, and tells whether more is live ahead of the block than was known.
func (l *look) grows(k int) bool {
	block, row := l.f.Blocks[k], l.rows[k]
	now := l.end(k)
	first := phis(block)
	for i := len(block) - 1; i >= len(first); i-- {
		copy(row[i+1], now)
		l.undo(now, block[i])
	}
	// All phis make their values at once: so behind each of them those of all are live.
	for i := range first {
		copy(row[i+1], now)
	}
	for _, x := range first {
		l.unmake(now, x)
	}
	grown := !slices.Equal(row[0], now)
	copy(row[0], now)
	return grown
}

// end is what is live at the end of a block: what is live ahead of those to which it goes, and what their phis take there.
func (l *look) end(k int) set {
	now := slices.Clone(l.joined[k])
	for _, to := range l.succs[k] {
		now.join(l.rows[to][0])
	}
	return now
}

// undo goes from behind an instruction that is no phi to ahead of it.
func (l *look) undo(now set, x api.Instr) {
	l.unmake(now, x)
	for _, value := range x.Args {
		l.take(now, value)
	}
}
