package effect

import (
	"slices"
	"strconv"
	"testing"

	"turntable/api"
	"turntable/made"
)

// Promise 16.3: as many functions as there may be, in one chain, with the last one first, the first one first, and in any order: what the last one does comes to the first one.
func TestMostFuncs(t *testing.T) {
	p := program(t, chain(api.MaxFuncs, "%0 = new ip store.p %0 1 %0 %1 = load.i %0 0 out %1 br b1 b1: if %1 b1 b2 b2: ret"))
	if len(p.Funcs) != api.MaxFuncs {
		t.Fatalf("%d functions", len(p.Funcs))
	}
	turned := api.Prog{Funcs: slices.Clone(p.Funcs)}
	slices.Reverse(turned.Funcs)
	mixed := api.Prog{}
	for _, k := range made.New(1).Perm(api.MaxFuncs) {
		mixed.Funcs = append(mixed.Funcs, p.Funcs[k])
	}
	for _, q := range []api.Prog{p, turned, mixed} {
		mustBeWell(t, q)
		for k, e := range Of(q) {
			if words(e) != letters {
				t.Errorf("%s does %s, want all", q.Funcs[k].Name, words(e))
			}
		}
		hold(t, q)
	}
}

// Promise 16.3: the greatest chain, whose links each do a thing of their own: each one does what those behind it do, and none ahead of it.
func TestLinks(t *testing.T) {
	text := "func main() n { b0: call.n f1 ret }"
	want := "main:rwmtgo"
	for k := 1; k < api.MaxFuncs; k++ {
		body, do := "", "rwmtgo"
		switch {
		case k > 25:
			do = "t"
		case k > 20:
			do = "wt"
		case k > 15:
			do = "rwt"
		case k > 10:
			do = "rwmt"
		case k > 5:
			do = "rwmtg"
		}
		switch k {
		case 25:
			body = "%0 = nil store.i %0 0 %1 "
		case 20:
			body = "%0 = nil %2 = load.i %0 0 "
		case 15:
			body = "%0 = new . "
		case 10:
			body = "out %1 "
		case 5:
			body = "br b1 b1: if %1 b1 b2 b2: "
		}
		if k < api.MaxFuncs-1 {
			body += "call.n f" + strconv.Itoa(k+1) + " ret"
		} else {
			body += "fail 7"
		}
		text += " func f" + strconv.Itoa(k) + "() n { b0: %1 = const 1 " + body + " }"
		want += " f" + strconv.Itoa(k) + ":" + do
	}
	mustDo(t, text, want)
}

// Promise 16.3: as many functions as there may be, in one ring: all go round, and do what one does.
func TestMostRing(t *testing.T) {
	p := program(t, chain(api.MaxFuncs, "%0 = new . call.n main ret"))
	for k, e := range Of(p) {
		if words(e) != "mto" {
			t.Errorf("%s does %s, want mto", p.Funcs[k].Name, words(e))
		}
	}
}

// Promise 16.3: as many blocks as there may be, one behind the other, with an edge that goes back from the last one, and without.
func TestMostBlocks(t *testing.T) {
	for _, back := range []int{0, 1, 128, 254, 255} {
		last := api.MaxBlocks - 1
		f := made.Long(api.MaxBlocks, func(k int) []int {
			switch {
			case k < last:
				return []int{k + 1}
			case back > 0:
				return []int{back}
			}
			return nil
		})
		f.Name = "main"
		p := api.Prog{Funcs: []api.Func{f}}
		mustBeWell(t, p)
		if got := Of(p)[0]; got != (api.Effect{Rounds: back > 0}) {
			t.Errorf("with an edge back to %d it does %s", back, words(got))
		}
	}
}

// Promises 16.1 to 16.3: as many instructions as there may be, of which the one ahead of the last one, or the first one, alone does something.
func TestMostInstrs(t *testing.T) {
	for _, at := range []int{0, 2000, api.MaxInstrs - 2} {
		var block []api.Instr
		for i := range api.MaxInstrs - 1 {
			block = append(block, api.Instr{Op: api.OConst, Id: api.MaxValue - i})
		}
		block[at] = api.Instr{Op: api.ONew, Id: 0, Name: "p"}
		p := api.Prog{Funcs: []api.Func{{Name: "main", Blocks: [][]api.Instr{append(block, api.Instr{Op: api.ORet, Id: -1})}}}}
		mustBeWell(t, p)
		if got := Of(p)[0]; got != (api.Effect{Makes: true}) {
			t.Errorf("%s, want m", words(got))
		}
	}
}

// Promises 16.2 to 16.4: great programs by chance.
func TestGreatByChance(t *testing.T) {
	for seed := range 60 {
		m := made.New(9000 + seed)
		p := m.Program(8+m.Intn(20), 30, seed%2 == 0)
		out := api.Prog{}
		for _, f := range p.Funcs {
			out.Funcs = append(out.Funcs, without(f, left(m)))
		}
		hold(t, out)
	}
}
