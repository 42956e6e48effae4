package base

import (
	"strconv"
	"strings"
	"testing"

	"turntable/api"
	"turntable/made"
	"turntable/parse"
	"turntable/show"
	"turntable/well"
)

// program is the program of a text, which may be run.
func program(t *testing.T, text string) api.Prog {
	t.Helper()
	p, e := parse.Text(text)
	if e != (api.Err{}) {
		t.Fatalf("%s: %v", text, e)
	}
	mustBeWell(t, p)
	return p
}

// read is the first function of a text's program, which may be run.
func read(t *testing.T, text string) api.Func {
	t.Helper()
	return program(t, text).Funcs[0]
}

// mustBeWell holds that a program may be run.
func mustBeWell(t *testing.T, p api.Prog) {
	t.Helper()
	if e := well.Made(p); e != (api.Err{}) {
		t.Fatalf("%v, of\n%s", e, show.Text(p))
	}
}

// words is pairs as a text: of each one the pointer into an object, > and that to which it belongs.
func words(pairs []api.Pair) string {
	var texts []string
	for _, p := range pairs {
		texts = append(texts, strconv.Itoa(p.Der)+">"+strconv.Itoa(p.Base))
	}
	return strings.Join(texts, " ")
}

// pairsOf is the pairs of a text that words makes.
func pairsOf(text string) []api.Pair {
	var pairs []api.Pair
	for _, word := range strings.Fields(text) {
		der, base, _ := strings.Cut(word, ">")
		d, _ := strconv.Atoi(der)
		b, _ := strconv.Atoi(base)
		pairs = append(pairs, api.Pair{Der: d, Base: b})
	}
	return pairs
}

// some is a program by chance that may be run, without relocs: its functions have at most so many blocks.
func some(m *made.Maker, blocks int) api.Prog {
	p := made.Unmoved(m.Program(1+m.Intn(3), blocks, m.Intn(2) == 0))
	if m.Intn(2) == 0 {
		p = m.Tamed(p)
	}
	if m.Intn(2) == 0 {
		for k, f := range p.Funcs {
			p.Funcs[k] = joined(m, f)
		}
	}
	return p
}

// one is a function by chance of a program that may be run, without relocs.
func one(m *made.Maker) api.Func {
	p := some(m, 1+m.Intn(9))
	return p.Funcs[m.Intn(len(p.Funcs))]
}

// eachProgram hands over so many programs by chance that may be run, without relocs.
func eachProgram(t *testing.T, count int, do func(m *made.Maker, p api.Prog)) {
	t.Helper()
	for seed := range count {
		m := made.New(seed)
		p := some(m, 1+m.Intn(9))
		mustBeWell(t, p)
		do(m, p)
	}
}

// eachFunction hands over the functions of so many programs by chance.
func eachFunction(t *testing.T, count int, do func(m *made.Maker, f api.Func)) {
	t.Helper()
	eachProgram(t, count, func(m *made.Maker, p api.Prog) {
		for _, f := range p.Funcs {
			do(m, f)
		}
	})
}

// based is a program with each function as Of makes it, and the pairs of each, by its name.
func based(p api.Prog) (api.Prog, map[string][]api.Pair) {
	out, pairs := api.Prog{}, map[string][]api.Pair{}
	for _, f := range p.Funcs {
		g, l := Of(f)
		out.Funcs, pairs[f.Name] = append(out.Funcs, g), l
	}
	return out, pairs
}

// room tells whether a program keeps the limits with as many phis more as Of puts in.
func room(p api.Prog) bool {
	count := 0
	for _, f := range p.Funcs {
		more := 0
		for _, block := range f.Blocks {
			for _, x := range block {
				count++
				if x.Op == api.OPhi && x.Type == api.TDer {
					more++
				}
			}
		}
		if greatest(f)+more > api.MaxValue {
			return false
		}
		count += more
	}
	return count <= api.MaxInstrs
}
