package base

import (
	"slices"
	"testing"

	"turntable/api"
	"turntable/made"
	"turntable/plain"
	"turntable/show"
	"turntable/source"
)

// someNumbers is numbers to begin with.
func someNumbers(m *made.Maker) []int64 {
	in := make([]int64, m.Intn(5))
	for i := range in {
		in[i] = int64(m.Intn(7) - 2)
	}
	return in
}

// Promise 15.4: what Of makes may be run, where it keeps the limits, and gives out, ends and answers as the function does of which it was made; for the same numbers, as far as both are run.
func TestSameRuns(t *testing.T) {
	ended, longer, full := map[int]int{}, 0, 0
	eachProgram(t, 6000, func(m *made.Maker, p api.Prog) {
		if !room(p) {
			full++
			return
		}
		q, _ := based(p)
		mustBeWell(t, q)
		for range 3 {
			in := someNumbers(m)
			a := source.Go(p, in, 300)
			// At most each phi has another one beside it.
			b := source.Go(q, in, 2*a.Steps)
			mustRunAlike(t, p, a, b)
			ended[a.Ended]++
			if b.Steps > a.Steps && a.Ended != api.Goes {
				longer++
			}
		}
	})
	// What is never met would not be held.
	if least := min(ended[api.Goes], ended[api.Exits], ended[api.Traps], longer); least < 500 || full > 3000 {
		t.Errorf("%v, %d runs with phis that were put in, %d programs without room", ended, longer, full)
	}
}

// mustRunAlike holds the results of a program, and of what was made of it, which was run at least as far.
func mustRunAlike(t *testing.T, p api.Prog, a, b api.Result) {
	t.Helper()
	if a.Ended == api.Goes {
		if len(b.Out) < len(a.Out) || !slices.Equal(b.Out[:len(a.Out)], a.Out) {
			t.Fatalf("%v is given out, want at first %v, of\n%s", b.Out, a.Out, show.Text(p))
		}
		return
	}
	if !slices.Equal(a.Out, b.Out) || a.Ended != b.Ended || a.Trap != b.Trap || a.N != b.N || a.Words != b.Words || b.Steps < a.Steps {
		t.Fatalf("%+v, want %+v, of\n%s", b, a, show.Text(p))
	}
}

// watched is how often a pointer into an object was held against the value beside it: of all, of those that a phi made, and where these were made at other times.
type watched struct{ held, joined, apart int }

// watch holds at each place of a run that each pointer into an object points into that to which the value beside it points, if both were made, that value no later.
func (n *watched) watch(t *testing.T, p api.Prog, pairs map[string][]api.Pair) plain.Watch {
	return func(f api.Func) plain.Seen {
		when, now := map[int]int{}, 0
		return func(made []int, values map[int]plain.Cell) {
			now++
			for _, value := range made {
				when[value] = now
			}
			for _, pair := range pairs[f.Name] {
				if when[pair.Base] == 0 || when[pair.Der] < when[pair.Base] {
					continue
				}
				der, base := values[pair.Der], values[pair.Base]
				if der.To == nil || der.To != base.To {
					t.Fatalf("%%%d points into another object than %%%d in %s of\n%s", pair.Der, pair.Base, f.Name, show.Text(p))
				}
				n.held++
				if when[pair.Der] == when[pair.Base] {
					n.joined++
				} else {
					n.apart++
				}
			}
		}
	}
}

// Promise 15.4: in runs of programs by chance each pointer into an object points into that to which the value beside it points.
func TestPointsInto(t *testing.T) {
	var n watched
	eachProgram(t, 4000, func(m *made.Maker, p api.Prog) {
		q, pairs := based(p)
		for range 2 {
			in := someNumbers(m)
			plain.Watched(q, in, 300, n.watch(t, q, pairs))
		}
	})
	if n.joined < 20000 || n.apart < 20000 {
		t.Errorf("%+v", n)
	}
}

// Promise 15.4: the example's run: at each beginning of the loop's head one phi more is done.
func TestExampleRuns(t *testing.T) {
	p := program(t, made.IntoExample)
	q, pairs := based(p)
	var n watched
	for in := range int64(5) {
		a := source.Go(p, []int64{in}, 1000)
		b := source.Go(q, []int64{in}, 1000)
		mustRunAlike(t, p, a, b)
		if a.Ended != api.Exits || b.Steps != a.Steps+int(in)+1 {
			t.Errorf("%+v, and %+v", a, b)
		}
		plain.Watched(q, []int64{in}, 1000, n.watch(t, q, pairs))
	}
	if n.joined == 0 || n.apart == 0 {
		t.Errorf("%+v", n)
	}
}

// Promise 15.4: two pointers that change places each time round: so do those beside them.
func TestTurnsRun(t *testing.T) {
	p := program(t, `func main(i) i {
b0: %1 = const 1 %2 = const 10 %3 = const 20 %4 = new i %5 = new ii store.i %4 0 %2 store.i %5 1 %3 %6 = slot %4 0 %7 = slot %5 1 br b1
b1: %8 = phi.i b0 %0 b2 %11 %9 = phi.d b0 %6 b2 %10 %10 = phi.d b2 %9 b0 %7 if %8 b2 b3
b2: %11 = sub %8 %1 %12 = get.i %9 out %12 br b1
b3: %13 = get.i %10 ret %13
}`)
	q, pairs := based(p)
	mustBeWell(t, q)
	if got := words(pairs["main"]); got != "6>4 7>5 9>14 10>15" {
		t.Errorf("the pairs are %s", got)
	}
	r := source.Go(q, []int64{4}, 1000)
	if !slices.Equal(r.Out, []int64{10, 20, 10, 20}) || r.Ended != api.Exits || r.N != 20 {
		t.Errorf("%+v", r)
	}
	var n watched
	plain.Watched(q, []int64{4}, 1000, n.watch(t, q, pairs))
}
