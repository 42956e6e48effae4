package effect

import (
	"slices"
	"strconv"
	"strings"
	"testing"

	"turntable/api"
	"turntable/made"
	"turntable/parse"
	"turntable/show"
	"turntable/well"
)

// letters is the letters of what may be done beside: reads, writes, makes, traps, gives out, goes round.
const letters = "rwmtgo"

// fields is what an effect tells, in the order of the letters.
func fields(e *api.Effect) []*bool {
	return []*bool{&e.Reads, &e.Writes, &e.Makes, &e.Traps, &e.Gives, &e.Rounds}
}

// words is an effect as letters; nothing is a point.
func words(e api.Effect) string {
	text := ""
	for i, does := range fields(&e) {
		if *does {
			text += letters[i : i+1]
		}
	}
	if text == "" {
		return "."
	}
	return text
}

// does is the effect of letters.
func does(text string) api.Effect {
	var e api.Effect
	for i, field := range fields(&e) {
		*field = strings.Contains(text, letters[i:i+1])
	}
	return e
}

// program is the program of a text, which may be run.
func program(t *testing.T, text string) api.Prog {
	t.Helper()
	p, e := parse.Text(text)
	if e != (api.Err{}) {
		t.Fatalf("%s: %v", text, e)
	}
	mustBeWell(t, p)
	return p
}

// mustBeWell holds that a program may be run.
func mustBeWell(t *testing.T, p api.Prog) {
	t.Helper()
	if e := well.Made(p); e != (api.Err{}) {
		t.Fatalf("%v, of\n%s", e, show.Text(p))
	}
}

// of is what each function of a program does, by their names.
func of(p api.Prog) map[string]string {
	all := map[string]string{}
	for k, e := range Of(p) {
		all[p.Funcs[k].Name] = words(e)
	}
	return all
}

// mustDo holds what the functions of a text's program do: as text, for each one its name, : and letters. Then it holds the same of their calls, and of the functions in any other order.
func mustDo(t *testing.T, text, want string) {
	t.Helper()
	p := program(t, text)
	for seed := range 5 {
		all, table := of(p), New(p)
		if len(all) != len(p.Funcs) || len(strings.Fields(want)) != len(all) {
			t.Fatalf("%d functions, %v is told, of\n%s", len(p.Funcs), all, text)
		}
		for _, word := range strings.Fields(want) {
			name, does, _ := strings.Cut(word, ":")
			if all[name] != does {
				t.Errorf("%s does %s, want %s, of\n%s", name, all[name], does, text)
			}
			mustCall(t, table, name, does)
		}
		p.Funcs = slices.Clone(p.Funcs)
		for i, k := range made.New(seed).Perm(len(p.Funcs)) {
			p.Funcs[i], p.Funcs[k] = p.Funcs[k], p.Funcs[i]
		}
	}
}

// mustCall holds what a call of a function does of which it is told what it does: a call traps by itself, too.
func mustCall(t *testing.T, table *Table, name, do string) {
	t.Helper()
	want := does(do)
	want.Traps = true
	if got := table.Instr(api.Instr{Op: api.OCall, Id: -1, Name: name}); got != want {
		t.Errorf("a call of %s does %s, want %s", name, words(got), words(want))
	}
}

// some is a program by chance that may be run, in which some things are left out, function by function.
func some(m *made.Maker) api.Prog {
	p := m.Program(1+m.Intn(8), 1+m.Intn(5), m.Intn(2) == 0)
	if m.Intn(2) == 0 {
		p = m.Tamed(p)
	}
	out := api.Prog{}
	for _, f := range p.Funcs {
		if m.Intn(4) > 0 {
			f = without(f, left(m))
		}
		out.Funcs = append(out.Funcs, f)
	}
	return out
}

// eachProgram hands over so many programs by chance that may be run.
func eachProgram(t *testing.T, count int, do func(m *made.Maker, p api.Prog)) {
	t.Helper()
	for seed := range count {
		m := made.New(seed)
		p := some(m)
		mustBeWell(t, p)
		do(m, p)
	}
}

// chain is so many functions, main and f1 on, each of which calls the next one; the last one does what a text says.
func chain(count int, last string) string {
	text := "func main() n { b0: "
	for k := range count - 1 {
		name := "f" + strconv.Itoa(k+1)
		text += "call.n " + name + " ret } func " + name + "() n { b0: "
	}
	return text + last + " }"
}
