package live

import (
	"strconv"
	"strings"
	"testing"

	"turntable/api"
	"turntable/made"
	"turntable/parse"
	"turntable/show"
	"turntable/well"
)

// read is the first function of a text's program, which may be run.
func read(t *testing.T, text string) api.Func {
	t.Helper()
	p, e := parse.Text(text)
	if e != (api.Err{}) {
		t.Fatalf("%s: %v", text, e)
	}
	if e := well.Made(p); e != (api.Err{}) {
		t.Fatalf("%s: %v", text, e)
	}
	return p.Funcs[0]
}

// words is a list as a text; - of none.
func words(l []int) string {
	if len(l) == 0 {
		return "-"
	}
	var texts []string
	for _, value := range l {
		texts = append(texts, strconv.Itoa(value))
	}
	return strings.Join(texts, " ")
}

// row is what is answered of a block: ahead of it, behind each of its instructions, and, behind a >, at its end.
func row(v *Live, f api.Func, k int) string {
	places := []string{words(v.In(k))}
	for i := range f.Blocks[k] {
		places = append(places, words(v.After(k, i)))
	}
	return strings.Join(places, " | ") + " > " + words(v.Out(k))
}

// must holds all that is answered of the first function of a text: of each block its row, and how many values are live at once.
func must(t *testing.T, text string, most int, rows ...string) {
	t.Helper()
	f := read(t, text)
	v := Of(f)
	if len(rows) != len(f.Blocks) {
		t.Fatalf("%s: %d rows are told of %d blocks", text, len(rows), len(f.Blocks))
	}
	for k, want := range rows {
		if got := row(v, f, k); got != want {
			t.Errorf("%s: of block %d\n%s, want\n%s", text, k, got, want)
		}
	}
	if got := v.Most(); got != most {
		t.Errorf("%s: Most is %d, want %d", text, got, most)
	}
	// What is written down by hand is told by the search, too: else one of both would be wrong.
	hold(t, f)
}

// some is a program by chance that may be run; its functions have at most so many blocks.
func some(m *made.Maker, blocks int) api.Prog {
	p := m.Program(1+m.Intn(3), blocks, m.Intn(2) == 0)
	if m.Intn(4) == 0 {
		p = m.Tamed(p)
	}
	return p
}

// eachFunction hands over the functions of so many programs by chance that may be run.
func eachFunction(t *testing.T, count int, do func(m *made.Maker, f api.Func)) {
	t.Helper()
	for seed := range count {
		m := made.New(seed)
		p := some(m, 1+m.Intn(9))
		if e := well.Made(p); e != (api.Err{}) {
			t.Fatalf("seed %d: %v, of\n%s", seed, e, show.Text(p))
		}
		for _, f := range p.Funcs {
			do(m, f)
		}
	}
}
