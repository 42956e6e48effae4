package effect

import (
	"slices"
	"testing"

	"turntable/api"
	"turntable/made"
	"turntable/show"
)

// told is what each function does, told once more: round by round each one takes what those do that it calls, till a round changes nothing; and it goes round where a block, or a function, is come to again from itself.
func told(p api.Prog) []string {
	next := make([][]int, len(p.Funcs))
	all := make([]api.Effect, len(p.Funcs))
	for k, f := range p.Funcs {
		for _, x := range slices.Concat(f.Blocks...) {
			add(&all[k], does(owned(x.Op)))
			if x.Op == api.OCall {
				next[k] = append(next[k], slices.IndexFunc(p.Funcs, func(f api.Func) bool { return f.Name == x.Name }))
			}
		}
	}
	for k, f := range p.Funcs {
		all[k].Rounds = again(made.Edges(f)) || met(next, next[k])[k]
	}
	for changed := true; changed; {
		changed = false
		for k := range all {
			before := all[k]
			for _, i := range next[k] {
				add(&all[k], all[i])
			}
			changed = changed || all[k] != before
		}
	}
	var texts []string
	for _, e := range all {
		texts = append(texts, words(e))
	}
	return texts
}

// add adds what one does to what another one does.
func add(to *api.Effect, e api.Effect) {
	for i, field := range fields(to) {
		*field = *field || *fields(&e)[i]
	}
}

// again tells whether from one of some blocks one comes to it again.
func again(edges [][]int) bool {
	for k := range edges {
		if met(edges, edges[k])[k] {
			return true
		}
	}
	return false
}

// met is what is come to from some, these among them.
func met(edges [][]int, from []int) []bool {
	been := make([]bool, len(edges))
	var visit func(k int)
	visit = func(k int) {
		if been[k] {
			return
		}
		been[k] = true
		for _, to := range edges[k] {
			visit(to)
		}
	}
	for _, k := range from {
		visit(k)
	}
	return been
}

// hold holds what is told of a program against what is told once more.
func hold(t *testing.T, p api.Prog) []string {
	t.Helper()
	want, got, table := told(p), Of(p), New(p)
	if len(got) != len(want) {
		t.Fatalf("%d functions are told, want %d", len(got), len(want))
	}
	for k, e := range got {
		if words(e) != want[k] {
			t.Fatalf("%s does %s, want %s, in\n%s", p.Funcs[k].Name, words(e), want[k], show.Text(p))
		}
		mustCall(t, table, p.Funcs[k].Name, want[k])
	}
	return want
}

// Promises 16.3 and 16.4: programs by chance, and what each of their instructions does.
func TestByChance(t *testing.T) {
	count := map[string]int{}
	eachProgram(t, 8000, func(_ *made.Maker, p api.Prog) {
		want := hold(t, p)
		for _, text := range want {
			count[text]++
		}
		table := New(p)
		for _, f := range p.Funcs {
			for _, x := range slices.Concat(f.Blocks...) {
				do := does(owned(x.Op))
				if x.Op == api.OCall {
					add(&do, does(want[slices.IndexFunc(p.Funcs, func(f api.Func) bool { return f.Name == x.Name })]))
				}
				if got := table.Instr(x); got != do {
					t.Fatalf("%s does %s, want %s, in\n%s", show.Instr(x), words(got), words(do), show.Text(p))
				}
			}
		}
	})
	// Of the 64 that might be, those cannot be that read or write, and do not trap.
	least := 1 << 30
	for _, n := range count {
		least = min(least, n)
	}
	if len(count) != 40 || least < 5 {
		t.Errorf("%d unlike each other, of the rarest one %d: %v", len(count), least, count)
	}
}

// linked is a program of so many functions that call each other by chance, few or many, and do some things by themselves.
func linked(m *made.Maker, funcs, calls int) api.Prog {
	p := api.Prog{}
	names := []string{"main"}
	for len(names) < funcs {
		names = append(names, "f"+string(rune('a'+len(names)/26))+string(rune('a'+len(names)%26)))
	}
	for _, k := range m.Perm(funcs) {
		block := []api.Instr{{Op: api.OConst, Id: 0}}
		switch m.Intn(8 + funcs) {
		case 0:
			block = append(block, api.Instr{Op: api.OOut, Id: -1, Args: []int{0}})
		case 1:
			block = append(block, api.Instr{Op: api.ONew, Id: 1, Name: "ip"})
		case 2:
			block = append(block, api.Instr{Op: api.ONil, Id: 1}, api.Instr{Op: api.OLoadI, Id: 2, Args: []int{1}})
		case 3:
			block = append(block, api.Instr{Op: api.ONil, Id: 1}, api.Instr{Op: api.OStoreI, Id: -1, Args: []int{1, 0}})
		}
		for range m.Intn(calls + 1) {
			block = append(block, api.Instr{Op: api.OCall, Id: -1, Name: names[m.Intn(funcs)]})
		}
		p.Funcs = append(p.Funcs, api.Func{Name: names[k], Blocks: [][]api.Instr{append(block, api.Instr{Op: api.ORet, Id: -1})}})
	}
	return p
}

// Promise 16.3: many functions that call each other by chance: rings within rings, side by side, and behind each other.
func TestLinked(t *testing.T) {
	rounds, not, all := 0, 0, 0
	for seed := range 3000 {
		m := made.New(seed)
		p := linked(m, 1+m.Intn(api.MaxFuncs), 1+m.Intn(4))
		mustBeWell(t, p)
		want := hold(t, p)
		for _, text := range want {
			switch {
			case text == "rwmtgo":
				all++
			case does(text).Rounds:
				rounds++
			default:
				not++
			}
		}
	}
	if least := min(rounds, not, all); least < 200 {
		t.Errorf("%d go round, %d do not, and %d do all", rounds, not, all)
	}
}

// each hands over every way in which so many functions may call each other.
func each(funcs int, do func(calls [][]int)) {
	for bits := range 1 << (funcs * funcs) {
		calls := make([][]int, funcs)
		for n := range funcs * funcs {
			if bits>>n&1 == 1 {
				calls[n/funcs] = append(calls[n/funcs], n%funcs)
			}
		}
		do(calls)
	}
}

// Promise 16.3: all ways in which up to four functions may call each other, where one makes objects, one gives out, one traps.
func TestAllWays(t *testing.T) {
	names := []string{"f", "main", "g", "h"}
	for funcs := 2; funcs <= 4; funcs++ {
		each(funcs, func(calls [][]int) {
			p := api.Prog{}
			for k, list := range calls {
				block := [][]api.Instr{{{Op: api.ONew, Id: 0, Name: "i"}}, {{Op: api.OConst, Id: 0}, {Op: api.OOut, Id: -1, Args: []int{0}}}, {{Op: api.ONil, Id: 0}, {Op: api.OSlot, Id: 1, Args: []int{0}}}, nil}[k]
				for _, i := range list {
					block = append(block, api.Instr{Op: api.OCall, Id: -1, Name: names[i]})
				}
				p.Funcs = append(p.Funcs, api.Func{Name: names[k], Blocks: [][]api.Instr{append(block, api.Instr{Op: api.ORet, Id: -1})}})
			}
			hold(t, p)
		})
	}
}

// Promise 16.3: all functions of up to four blocks, as far as all are reached and nobody goes to the first one: which of them go round.
func TestAllBlocks(t *testing.T) {
	rounds, not := 0, 0
	for blocks := 1; blocks <= 4; blocks++ {
		made.All(blocks, false, func(f api.Func) {
			f.Name = "main"
			if slices.Contains(made.Search(f, 0, -1), false) || slices.ContainsFunc(made.Edges(f), func(to []int) bool { return slices.Contains(to, 0) }) {
				return
			}
			p := api.Prog{Funcs: []api.Func{f}}
			if hold(t, p)[0] == "o" {
				rounds++
			} else {
				not++
			}
		})
	}
	if min(rounds, not) < 30 {
		t.Errorf("%d go round, %d do not", rounds, not)
	}
}
