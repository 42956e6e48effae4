package effect

import (
	"slices"
	"testing"

	"turntable/api"
	"turntable/made"
	"turntable/plain"
	"turntable/show"
	"turntable/source"
)

// someNumbers is numbers to begin with.
func someNumbers(m *made.Maker) []int64 {
	in := make([]int64, m.Intn(5))
	for i := range in {
		in[i] = int64(m.Intn(7) - 2)
	}
	return in
}

// length is how many instructions a function has.
func length(f api.Func) int { return len(slices.Concat(f.Blocks...)) }

// mustNotDo holds a run by layer 13 against what is told of main.
func mustNotDo(t *testing.T, p api.Prog, e api.Effect, r api.Result) {
	t.Helper()
	if !e.Gives && len(r.Out) > 0 || !e.Traps && r.Ended == api.Traps || !e.Makes && r.Words > 0 {
		t.Fatalf("main does %s, and a run is %+v, of\n%s", words(e), r, show.Text(p))
	}
}

// Promise 16.5: in runs of programs by chance what is told not to give out gives nothing out, what is told not to trap does not trap, and what is told not to make objects takes no words.
func TestNotTold(t *testing.T) {
	quiet, loud := map[string]int{}, map[string]int{}
	eachProgram(t, 8000, func(m *made.Maker, p api.Prog) {
		main := slices.IndexFunc(p.Funcs, func(f api.Func) bool { return f.Name == "main" })
		e := Of(p)[main]
		for range 3 {
			r := source.Go(p, someNumbers(m), 300)
			mustNotDo(t, p, e, r)
			for letter, did := range map[string]bool{"g": len(r.Out) > 0, "t": r.Ended == api.Traps, "m": r.Words > 0} {
				if did {
					loud[letter]++
				} else if slices.Contains([]rune(words(e)), rune(letter[0])) {
					continue
				} else {
					quiet[letter]++
				}
			}
		}
	})
	// What is never met would not be held.
	for _, letter := range []string{"g", "t", "m"} {
		if min(quiet[letter], loud[letter]) < 1000 {
			t.Errorf("%s is not told %d times, and done %d times", letter, quiet[letter], loud[letter])
		}
	}
}

// Promise 16.5: what is told not to go round, and calls none, ends, in no more instructions than it has.
func TestEnds(t *testing.T) {
	blocks, rounds := 0, 0
	eachProgram(t, 8000, func(m *made.Maker, p api.Prog) {
		for k, e := range Of(p) {
			f := p.Funcs[k]
			if e.Rounds {
				rounds++
				continue
			}
			if len(Calls(f)) > 0 || slices.Contains(f.Params, api.TPtr) {
				continue
			}
			f.Name = "main"
			r := source.Go(api.Prog{Funcs: []api.Func{f}}, someNumbers(m), length(f)+1)
			if r.Ended == api.Goes || r.Steps > length(f) {
				t.Fatalf("%d instructions are done of %d: %+v, of\n%s", r.Steps, length(f), r, show.Func(f))
			}
			if len(f.Blocks) > 1 {
				blocks++
			}
		}
	})
	if min(blocks, rounds) < 1000 {
		t.Errorf("%d functions of several blocks end, %d may go round", blocks, rounds)
	}
}

// most is how many instructions a function does at most that does not go round, by its name, with all that it calls.
func most(p api.Prog, name string) int {
	f := p.Funcs[slices.IndexFunc(p.Funcs, func(f api.Func) bool { return f.Name == name })]
	count := 0
	for _, x := range slices.Concat(f.Blocks...) {
		count++
		if x.Op == api.OCall {
			count += most(p, x.Name)
		}
	}
	return count
}

// Promise 16.5: what is told not to go round ends, also where it calls others.
func TestEndsWithCalls(t *testing.T) {
	calls := 0
	end := func(m *made.Maker, p api.Prog) {
		main := slices.IndexFunc(p.Funcs, func(f api.Func) bool { return f.Name == "main" })
		if Of(p)[main].Rounds {
			return
		}
		n := most(p, "main")
		r := source.Go(p, someNumbers(m), n+1)
		if r.Ended == api.Goes || r.Steps > n {
			t.Fatalf("%d instructions are done of %d: %+v, of\n%s", r.Steps, n, r, show.Text(p))
		}
		if len(Calls(p.Funcs[main])) > 0 {
			calls++
		}
	}
	eachProgram(t, 4000, end)
	for seed := range 4000 {
		m := made.New(seed)
		end(m, linked(m, 1+m.Intn(6), 2))
	}
	if calls < 500 {
		t.Errorf("only %d programs that call others", calls)
	}
}

// Promise 16.5: function by function, in runs that are watched: each thing that a function does, by itself, or by way of those that it calls, is told.
func TestEachThingIsTold(t *testing.T) {
	told, silent, did := map[string]int{}, map[string]int{}, map[string]int{}
	eachProgram(t, 8000, func(m *made.Maker, p api.Prog) {
		does := Of(p)
		for range 2 {
			_, done := plain.Done(p, someNumbers(m), 300)
			for k, f := range p.Funcs {
				acts, there := done[f.Name]
				if !there {
					continue
				}
				may := does[k]
				for i, act := range fields(&acts) {
					letter := letters[i : i+1]
					switch {
					case *act && !*fields(&may)[i]:
						t.Fatalf("%s does %s, but is told to do %s, in\n%s", f.Name, words(acts), words(may), show.Text(p))
					case *act:
						did[letter]++
					case *fields(&may)[i]:
						told[letter]++
					default:
						silent[letter]++
					}
				}
			}
		}
	})
	for i := range letters {
		letter := letters[i : i+1]
		if min(told[letter], silent[letter], did[letter]) < 100 {
			t.Errorf("%s: done %d times, told but not done %d times, neither %d times", letter, did[letter], told[letter], silent[letter])
		}
	}
}

// Promise 16.5: what each operation does is told, where it is alone: it is done, so that nothing could be left out.
func TestEachIsDone(t *testing.T) {
	for text, want := range map[string]string{
		"func main() n { b0: ret }":                 ".",
		"func main() n { b0: %0 = new . ret }":      "m",
		"func main(i) n { b0: out %0 ret }":         "g",
		"func main(i) n { b0: %1 = div %0 %0 ret }": "t",
		"func main() n { b0: fail 3 }":              "t",
		"func main(i) n { b0: br b1 b1: %1 = phi.i b0 %0 b1 %2 %2 = eq %1 %0 if %2 b1 b2 b2: ret }":                  "o",
		"func main() n { b0: %0 = new ip %1 = load.i %0 0 ret }":                                                     "rm",
		"func main() n { b0: %0 = new ip %1 = load.p %0 1 ret }":                                                     "rm",
		"func main(i) n { b0: %1 = new ip store.i %1 0 %0 ret }":                                                     "wm",
		"func main() n { b0: %1 = new ip store.p %1 1 %1 ret }":                                                      "wm",
		"func main() n { b0: %0 = new ip %1 = slot %0 0 %2 = get.i %1 ret }":                                         "rm",
		"func main() n { b0: %0 = new ip %1 = slot %0 1 %2 = get.p %1 ret }":                                         "rm",
		"func main() n { b0: %0 = new ip %1 = slot %0 0 %2 = const 1 put.i %1 %2 ret }":                              "wm",
		"func main() n { b0: %0 = new ip %1 = slot %0 1 put.p %1 %0 ret }":                                           "wm",
		"func main() n { b0: call.n main ret }":                                                                      "to",
		"func main() n { b0: call.n f ret } func f() n { b0: call.n main ret }":                                      "to",
		"func main() n { b0: call.n f ret } func f() n { b0: call.n g ret } func g() n { b0: %0 = new i fail 1 }":    "mt",
		"func main(i) i { b0: call.n f %0 ret %0 } func f(i) n { b0: if %0 b1 b2 b1: out %0 ret b2: out %0 fail 1 }": "tg",
	} {
		p := program(t, text)
		_, done := plain.Done(p, nil, 1000)
		if got := words(done["main"]); got != want {
			t.Errorf("%s does %s, want %s", text, got, want)
		}
		may, acts := Of(p)[0], done["main"]
		for i, act := range fields(&acts) {
			if *act && !*fields(&may)[i] {
				t.Errorf("%s does %s, but is told to do %s", text, words(acts), words(may))
			}
		}
	}
}
