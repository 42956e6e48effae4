package source

import (
	"testing"

	"turntable/api"
	"turntable/made"
	"turntable/plain"
	"turntable/well"
)

// Promises 13.1 to 13.6: programs by chance come as far as is told once more, by Go, and step by step, in any number of instructions.
func TestByChance(t *testing.T) {
	ended, trapped := map[int]int{}, map[int]int{}
	for seed := range 12000 {
		m := made.New(seed)
		p, in := some(m), someNumbers(m)
		if e := well.Made(p); e != (api.Err{}) {
			t.Fatalf("seed %d: %v", seed, e)
		}
		fuel := m.One([]int{0, 1, 5, 20, 60, 300, 1000, 1000})
		want := plain.Told(p, in, fuel)
		mustAgree(t, "Go", p, Go(p, in, fuel), want)
		mustAgree(t, "step by step", p, stepped(p, in, fuel), want)
		ended[want.Ended]++
		trapped[min(want.Trap, api.TrapFail)]++
	}
	// What is never met would not be held.
	for _, how := range []int{api.Goes, api.Exits, api.Traps} {
		if ended[how] < 1000 {
			t.Errorf("only %d runs end by %d", ended[how], how)
		}
	}
	for _, trap := range []int{api.TrapNil, api.TrapSlot, api.TrapDiv, api.TrapDepth, api.TrapFail} {
		if trapped[trap] < 50 {
			t.Errorf("only %d runs trap by %d", trapped[trap], trap)
		}
	}
}

// Promise 13.6: Go is New and Steps: of great programs, too.
func TestGreatByChance(t *testing.T) {
	for seed := range 60 {
		m := made.New(20000 + seed)
		p := m.Tamed(m.Program(8, 60, seed%2 == 0))
		for _, fuel := range []int{100, 5000} {
			want := plain.Told(p, []int64{1, 2, 3}, fuel)
			mustAgree(t, "Go", p, Go(p, []int64{1, 2, 3}, fuel), want)
			mustAgree(t, "step by step", p, stepped(p, []int64{1, 2, 3}, fuel), want)
		}
	}
}

// P6: the same program and numbers, the same answer.
func TestSameAgain(t *testing.T) {
	m := made.New(30)
	for range 500 {
		p, in := some(m), someNumbers(m)
		want := Go(p, in, 300)
		for range 3 {
			mustAgree(t, "again", p, Go(p, in, 300), want)
		}
	}
}

// Nothing is promised of programs that may not be run, of a nil run, and of one that New did not make: there nothing is done, and each call ends.
func TestNotPromised(t *testing.T) {
	for _, r := range []*Run{nil, {}} {
		r.Step()
		if got := r.Result(); !same(got, api.Result{}) {
			t.Errorf("%+v", got)
		}
	}
	m := made.New(31)
	for range 3000 {
		p := some(m)
		f := &p.Funcs[m.Intn(len(p.Funcs))]
		for k, block := range f.Blocks {
			for i := range block {
				if m.Intn(6) == 0 {
					block[i] = api.Instr{Op: m.Intn(33) - 1, Id: m.Intn(12) - 3, N: int64(m.Intn(40) - 3), Type: m.Intn(6) - 1, Args: m.Labels(m.Intn(4), 9), To: m.Labels(m.Intn(4), 300)}
				}
			}
			if m.Intn(9) == 0 {
				f.Blocks[k] = nil
			}
		}
		if well.Made(p).Code == api.OK {
			mustAgree(t, "may be run, still", p, Go(p, []int64{1}, 100), plain.Told(p, []int64{1}, 100))
			continue
		}
		if got := Go(p, []int64{1}, 100); !same(got, api.Result{}) {
			t.Fatalf("%+v", got)
		}
	}
	if got := Go(api.Prog{}, nil, 100); !same(got, api.Result{}) {
		t.Errorf("%+v", got)
	}
}
