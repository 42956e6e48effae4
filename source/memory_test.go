package source

import (
	"reflect"
	"slices"
	"sync"
	"testing"

	"turntable/api"
	"turntable/made"
	"turntable/plain"
)

// R3: what lies behind a list's length is neither read nor written, and nothing that is handed in is changed.
func TestOwnMemory(t *testing.T) {
	m := made.New(40)
	for range 1000 {
		p, in := some(m), someNumbers(m)
		want := plain.Told(p, in, 300)
		full, numbers := made.LoadedProg(p), made.Behind(in, 66, 67, 68, 69)
		before, given := made.WholeProg(full), slices.Clone(numbers[:cap(numbers)])
		for range 2 {
			mustAgree(t, "of lists with others behind them", p, Go(full, numbers, 300), want)
			mustAgree(t, "step by step", p, stepped(full, numbers, 300), want)
		}
		if !reflect.DeepEqual(made.WholeProg(full), before) || !slices.Equal(numbers[:cap(numbers)], given) {
			t.Fatalf("what was handed in was changed: %v, %v", full, numbers)
		}
	}
}

// R3: numbers that are missing are 0, whatever lies behind those that are there.
func TestBehindNumbers(t *testing.T) {
	p := read(t, "func main(i i i) i { b0: out %0 out %1 out %2 ret %2 }")
	for count, want := range []api.Result{exits(0, 4, 0, 0, 0, 0), exits(0, 4, 0, 5, 0, 0), exits(0, 4, 0, 5, 6, 0), exits(7, 4, 0, 5, 6, 7)} {
		in := []int64{5, 6, 7, 8}[:count]
		mustAgree(t, "of fewer numbers", p, Go(p, in, enough), want)
	}
}

// R3: a caller who writes into what it gave to New changes nothing of what the run does then, however far it came.
func TestNotKept(t *testing.T) {
	m := made.New(41)
	for range 1000 {
		p, in := some(m), someNumbers(m)
		want := plain.Told(p, in, 300)
		given, numbers := made.LoadedProg(p), made.Behind(in, 9)
		r := New(given, numbers)
		for range m.Intn(20) {
			if r.Result().Steps < 300 {
				r.Step()
			}
		}
		made.SpoilProg(given)
		made.Fill(numbers, 77)
		for r.Result().Ended == api.Goes && r.Result().Steps < 300 {
			r.Step()
		}
		mustAgree(t, "behind what was given being written to", p, r.Result(), want)
	}
}

// R3: who writes into what Result or Go answered changes no other answer, and nothing of the run.
func TestAnswersApart(t *testing.T) {
	p := read(t, counts)
	r := New(p, nil)
	for steps := 0; r.Result().Steps < 400; steps++ {
		want := plain.Told(p, nil, r.Result().Steps)
		first, second := r.Result(), r.Result()
		_ = append(first.Out, 99, 98, 97)
		made.Fill(first.Out, 77)
		first.Ended, first.Steps, first.Words = api.Traps, -5, -6
		mustAgree(t, "the second answer", p, second, want)
		mustAgree(t, "asked again", p, r.Result(), want)
		r.Step()
	}
	one, two := Go(p, nil, 100), Go(p, nil, 100)
	made.Fill(one.Out, 77)
	mustAgree(t, "by Go", p, two, plain.Told(p, nil, 100))
	mustAgree(t, "by Go again", p, Go(p, nil, 100), plain.Told(p, nil, 100))
}

// R3: what was answered once stays as it is while the run goes on.
func TestAnswersStay(t *testing.T) {
	p := read(t, counts)
	r := New(p, nil)
	var answers []api.Result
	for range 300 {
		answers = append(answers, r.Result())
		r.Step()
	}
	for _, got := range answers {
		mustAgree(t, "later", p, got, plain.Told(p, nil, got.Steps))
	}
}

// P6: two runs at once, of one program and of two, do not know of each other: objects, values and numbers given out are each one's own.
func TestRunsApart(t *testing.T) {
	m := made.New(42)
	for range 300 {
		p, q := some(m), some(m)
		ins := [][]int64{someNumbers(m), someNumbers(m), someNumbers(m)}
		progs := []api.Prog{p, q, p}
		runs := []*Run{New(p, ins[0]), New(q, ins[1]), New(p, ins[2])}
		for range 600 {
			k := m.Intn(len(runs))
			if r := runs[k]; r.Result().Steps < 200 {
				r.Step()
			}
		}
		for k, r := range runs {
			for r.Result().Ended == api.Goes && r.Result().Steps < 200 {
				r.Step()
			}
			mustAgree(t, "among others", progs[k], r.Result(), plain.Told(progs[k], ins[k], 200))
		}
	}
}

// P6: runs of one program by several at the same time.
func TestRunsSideBySide(t *testing.T) {
	p := read(t, example)
	got := make([]api.Result, 16)
	var all sync.WaitGroup
	for i := range got {
		all.Go(func() { got[i] = Go(p, []int64{int64(i)}, enough) })
	}
	all.Wait()
	for i := range got {
		mustAgree(t, "side by side", p, got[i], plain.Told(p, []int64{int64(i)}, enough))
	}
}

// R3: lists that are nil and lists without elements are the same.
func TestNilAndEmpty(t *testing.T) {
	p := read(t, "func main(i) i { b0: %1 = const 5 poll 3 br b1 b1: call.n f ret %1 } func f() n { b0: ret }")
	q := api.Prog{}
	for _, f := range p.Funcs {
		f = made.Bare(f)
		if f.Params == nil {
			f.Params = []int{}
		}
		q.Funcs = append(q.Funcs, f)
		for _, block := range f.Blocks {
			for i, x := range block {
				if x.Args == nil {
					block[i].Args = []int{}
				}
				if x.To == nil {
					block[i].To = []int{}
				}
			}
		}
	}
	for _, in := range [][]int64{nil, {}} {
		mustAgree(t, "with nil", p, Go(p, in, enough), exits(5, 6, 0))
		mustAgree(t, "with empty lists", p, Go(q, in, enough), exits(5, 6, 0))
	}
}
