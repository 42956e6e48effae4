package effect

import (
	"turntable/api"
	"turntable/graph"
)

// anyway has functions be reached by way of any others.
const anyway = -1

// Of is what each function of a program may do beside.
func Of(p api.Prog) []api.Effect {
	alone, edges := make([]api.Effect, len(p.Funcs)), called(p.Funcs)
	below := make([][]bool, len(p.Funcs))
	for k, f := range p.Funcs {
		below[k] = graph.Reached(edges, edges[k], anyway)
		alone[k] = through(f, func(so api.Effect, x api.Instr) api.Effect { return both(so, Own(x)) })
		alone[k].Rounds = below[k][k] || len(graph.Backs(f)) > 0
	}
	does := make([]api.Effect, len(p.Funcs))
	for k, reached := range below {
		does[k] = alone[k]
		for i, is := range reached {
			if is {
				does[k] = both(does[k], alone[i])
			}
		}
	}
	return does
}

// called is which functions each one calls directly, by where they stand.
func called(funcs []api.Func) [][]int {
	at, edges := places(funcs), make([][]int, len(funcs))
	for k, f := range funcs {
		for _, name := range Calls(f) {
			if i, there := at[name]; there {
				edges[k] = append(edges[k], i)
			}
		}
	}
	return edges
}

// places is where the function of each name stands: of several the first one.
func places(funcs []api.Func) map[string]int {
	at := make(map[string]int, len(funcs))
	for k, f := range funcs {
		if _, there := at[f.Name]; !there {
			at[f.Name] = k
		}
	}
	return at
}

// Table is what a call of each function may do beside, by its name: where the function stands, and what those do that stand there.
type Table struct {
	at   map[string]int
	does []api.Effect
}

// New is the table of a program.
func New(p api.Prog) *Table { return &Table{at: places(p.Funcs), does: Of(p)} }

// Instr is what an instruction may do beside, by way of what it calls, too; of a function that there is not nothing is known: all.
func (t *Table) Instr(x api.Instr) api.Effect {
	if x.Op != api.OCall {
		return Own(x)
	}
	return both(Own(x), t.of(x.Name))
}

// of is what the function of a name may do beside.
func (t *Table) of(name string) api.Effect {
	if t == nil {
		return all()
	}
	k, there := t.at[name]
	if !there {
		return all()
	}
	return t.does[k]
}
