package source

import (
	"reflect"
	"testing"

	"turntable/api"
	"turntable/made"
	"turntable/parse"
	"turntable/plain"
	"turntable/show"
	"turntable/well"
)

// enough is more instructions than any program of these tests does that ends.
const enough = 1 << 20

// read is the program of a text, which may be run.
func read(t *testing.T, text string) api.Prog {
	t.Helper()
	p, e := parse.Text(text)
	if e != (api.Err{}) {
		t.Fatalf("%s: %v", text, e)
	}
	if e := well.Made(p); e != (api.Err{}) {
		t.Fatalf("%s: %v", text, e)
	}
	return p
}

// bare is a result whose list without elements is nil: so those are the same that hold the same.
func bare(r api.Result) api.Result {
	if len(r.Out) == 0 {
		r.Out = nil
	}
	return r
}

// same tells whether two results are the same.
func same(a, b api.Result) bool { return reflect.DeepEqual(bare(a), bare(b)) }

// must holds how far the program of a text comes, to its end, by all ways there are to run it.
func must(t *testing.T, text string, in []int64, want api.Result) {
	t.Helper()
	p := read(t, text)
	if got := Go(p, in, enough); !same(got, want) {
		t.Fatalf("%s, of %v: %+v, want %+v", text, in, got, want)
	}
	if got := stepped(p, in, enough); !same(got, want) {
		t.Fatalf("%s, of %v, step by step: %+v, want %+v", text, in, got, want)
	}
	if got := plain.Told(p, in, enough); !same(got, want) {
		t.Fatalf("%s, of %v, as it is told: %+v, want %+v", text, in, got, want)
	}
}

// exits is the result of a run that ends by ret.
func exits(n int64, steps, words int, out ...int64) api.Result {
	return api.Result{Ended: api.Exits, N: n, Steps: steps, Words: words, Out: out}
}

// traps is the result of a run that ends by a trap.
func traps(trap, steps, words int, out ...int64) api.Result {
	return api.Result{Ended: api.Traps, Trap: trap, Steps: steps, Words: words, Out: out}
}

// goes is the result of a run that has not ended.
func goes(steps, words int, out ...int64) api.Result {
	return api.Result{Steps: steps, Words: words, Out: out}
}

// stepped is how far a program comes by New and Steps, each one asked for how far it came then.
func stepped(p api.Prog, in []int64, fuel int) api.Result {
	r := New(p, in)
	for r.Result().Ended == api.Goes && r.Result().Steps < fuel {
		r.Step()
	}
	return r.Result()
}

// some is a program by chance that may be run, whose runs go far mostly.
func some(m *made.Maker) api.Prog {
	p := m.Program(1+m.Intn(4), 1+m.Intn(9), m.Intn(2) == 0)
	if m.Intn(4) > 0 {
		p = m.Tamed(p)
	}
	return p
}

// someNumbers is numbers to begin with: fewer than main may take, and more.
func someNumbers(m *made.Maker) []int64 {
	in := make([]int64, m.Intn(5))
	for i := range in {
		in[i] = int64(m.Intn(7) - 2)
	}
	return in
}

// mustAgree holds a result against the one that is told.
func mustAgree(t *testing.T, when string, p api.Prog, got, want api.Result) {
	t.Helper()
	if !same(got, want) {
		t.Fatalf("%s: %+v, want %+v, of\n%s", when, got, want, show.Text(p))
	}
}
