package effect

import (
	"slices"
	"strings"
	"testing"

	"turntable/api"
	"turntable/made"
)

// Promise 16.3: functions that do nothing: also what is pure, polls, marks, and goes elsewhere.
func TestNothing(t *testing.T) {
	mustDo(t, "func main() n { b0: ret }", "main:.")
	mustDo(t, "func main(i i) i { b0: %2 = const 1 %3 = add %0 %2 %4 = sub %3 %1 %5 = mul %4 %3 %6 = lt %5 %4 %7 = eq %6 %5 %8 = nil %9 = same %8 %8 poll 4 mark %8 %10 = reloc.p %8 4 ret %9 }", "main:.")
	if got := Of(api.Prog{}); len(got) > 0 {
		t.Errorf("%v", got)
	}
}

// Promise 16.3: each single thing alone, by each instruction that does it.
func TestEachAlone(t *testing.T) {
	with := func(body string) string { return "func main(i) n { b0: " + body + " ret }" }
	mustDo(t, with("%1 = new ip"), "main:m")
	mustDo(t, with("%1 = new ."), "main:m")
	mustDo(t, with("out %0"), "main:g")
	mustDo(t, with("%1 = div %0 %0"), "main:t")
	mustDo(t, with("%1 = nil %2 = slot %1 0"), "main:t")
	mustDo(t, "func main() n { b0: fail 3 }", "main:t")
	mustDo(t, "func main(i) n { b0: br b1 b1: if %0 b1 b2 b2: ret }", "main:o")
	mustDo(t, with("%1 = nil %2 = load.i %1 0"), "main:rt")
	mustDo(t, with("%1 = nil %2 = load.p %1 0"), "main:rt")
	mustDo(t, with("%1 = nil store.i %1 0 %0"), "main:wt")
	mustDo(t, with("%1 = nil store.p %1 0 %1"), "main:wt")
	mustDo(t, with("%1 = nil %2 = slot %1 0 %3 = get.i %2"), "main:rt")
	mustDo(t, with("%1 = nil %2 = slot %1 0 %3 = get.p %2"), "main:rt")
	mustDo(t, with("%1 = nil %2 = slot %1 0 put.i %2 %0"), "main:wt")
	mustDo(t, with("%1 = nil %2 = slot %1 0 put.p %2 %1"), "main:wt")
}

// Promise 16.3: all that a function's instructions do, together: whatever block they stand in, and wherever in it.
func TestAllTogether(t *testing.T) {
	mustDo(t, "func main(i) i { b0: %1 = new i br b1 b1: out %0 br b2 b2: %2 = load.i %1 0 if %2 b3 b4 b3: store.i %1 0 %0 br b4 b4: ret %0 }", "main:rwmtg")
	mustDo(t, "func main(i) i { b0: if %0 b1 b2 b1: %1 = new i ret %0 b2: out %0 ret %0 }", "main:mg")
	mustDo(t, "func main(i) i { b0: out %0 %1 = new i br b1 b1: if %0 b1 b2 b2: ret %0 }", "main:mgo")
}

// Promise 16.3: a function is asked instruction by instruction: also what is never done is told, and what follows a trap.
func TestAlsoNeverDone(t *testing.T) {
	mustDo(t, "func main() n { b0: %0 = const 0 %1 = const 2 %2 = div %1 %1 if %0 b1 b2 b1: out %0 ret b2: ret }", "main:tg")
	mustDo(t, "func main() n { b0: %0 = const 0 if %0 b1 b2 b1: call.n f ret b2: ret } func f() n { b0: %0 = new p fail 1 }", "main:mt f:mt")
}

// Promise 16.3: blocks without edges that go back do not go round, in whatever order they stand; of those that go back one is enough, also from a block to itself.
func TestBlocks(t *testing.T) {
	mustDo(t, "func main(i) n { b0: if %0 b1 b2 b1: br b3 b2: br b3 b3: ret }", "main:.")
	mustDo(t, "func main(i) n { b0: br b3 b1: ret b2: br b1 b3: if %0 b2 b1 }", "main:.")
	mustDo(t, "func main(i) n { b0: if %0 b1 b1 b1: ret }", "main:.")
	mustDo(t, "func main(i) n { b0: br b1 b1: br b1 }", "main:o")
	mustDo(t, "func main(i) n { b0: br b1 b1: br b2 b2: if %0 b3 b1 b3: ret }", "main:o")
	mustDo(t, "func main(i) n { b0: br b2 b1: if %0 b2 b3 b2: br b1 b3: ret }", "main:o")
	mustDo(t, "func main(i) n { b0: if %0 b1 b2 b1: if %0 b2 b3 b2: if %0 b1 b3 b3: ret }", "main:o")
}

// Promise 16.3: a function that calls itself goes round, and its call traps; directly, in whatever block.
func TestCallsItself(t *testing.T) {
	mustDo(t, "func main() n { b0: call.n main ret }", "main:to")
	mustDo(t, "func main(i) i { b0: if %0 b1 b2 b1: %1 = const 1 %2 = sub %0 %1 %3 = call.i main %2 ret %3 b2: ret %0 }", "main:to")
	mustDo(t, "func main() n { b0: call.n f ret } func f() n { b0: call.n f %0 = new i ret }", "main:mto f:mto")
}

// Promise 16.3: functions that call each other around all go round, and do what any of them does; nobody else's.
func TestRings(t *testing.T) {
	mustDo(t, "func main() n { b0: ret } func f() n { b0: call.n g ret } func g() n { b0: call.n f ret }", "main:. f:to g:to")
	mustDo(t, "func main() n { b0: call.n f ret } func f() n { b0: %0 = const 1 out %0 call.n main ret }", "main:tgo f:tgo")
	mustDo(t, "func main() n { b0: ret } func f() n { b0: call.n g ret } func g() n { b0: %0 = new i call.n h ret } func h() n { b0: %0 = const 1 out %0 call.n f ret }", "main:. f:mtgo g:mtgo h:mtgo")
	mustDo(t, "func main() n { b0: ret } func f() n { b0: call.n g ret } func g() n { b0: call.n f ret } func h() n { b0: %0 = new i call.n k ret } func k() n { b0: call.n h ret }", "main:. f:to g:to h:mto k:mto")
}

// Promise 16.3: to one that calls into a ring comes what the ring does, that it goes round, too; what it does itself does not come to the ring.
func TestIntoRings(t *testing.T) {
	mustDo(t, "func main() n { b0: %0 = new i call.n f ret } func f() n { b0: call.n f %0 = const 1 out %0 ret }", "main:mtgo f:tgo")
	mustDo(t, "func main() n { b0: %0 = const 4 out %0 call.n g ret } func f() n { b0: %0 = new p call.n g ret } func g() n { b0: call.n f ret }", "main:mtgo f:mto g:mto")
	mustDo(t, "func main() n { b0: %0 = new i call.n h ret } func h() n { b0: %0 = const 4 out %0 call.n g ret } func f() n { b0: call.n g ret } func g() n { b0: call.n f ret }", "main:mtgo h:tgo f:to g:to")
}

// Promise 16.3: a ring does what those do that it calls, and these do not go round for it.
func TestOutOfRings(t *testing.T) {
	mustDo(t, "func main() n { b0: call.n f ret } func f() n { b0: call.n g call.n a ret } func g() n { b0: call.n f ret } func a() n { b0: call.n b ret } func b() n { b0: %0 = new i ret }", "main:mto f:mto g:mto a:mt b:m")
}

// Promise 16.3: what goes round by its blocks goes round in those that call it, too, not in those that it calls.
func TestRoundsComeUp(t *testing.T) {
	mustDo(t, "func main() n { b0: call.n f ret } func f() n { b0: call.n g br b1 b1: %0 = const 0 if %0 b1 b2 b2: ret } func g() n { b0: ret }", "main:to f:to g:.")
}

// Promise 16.3: a way that forks and meets again is no ring.
func TestNoRing(t *testing.T) {
	mustDo(t, "func main() n { b0: call.n f call.n g call.n h ret } func f() n { b0: call.n g call.n h ret } func g() n { b0: call.n h ret } func h() n { b0: ret }", "main:t f:t g:t h:.")
}

// Promise 16.3: in a chain what the last one does comes to the first one; what the first one does goes to none.
func TestChain(t *testing.T) {
	for _, count := range []int{2, 3, 5, 31, 32} {
		for last, do := range map[string]string{"ret": ".", "%0 = new i ret": "m", "%0 = const 1 out %0 ret": "g", "fail 1": "t", "%0 = nil store.p %0 0 %0 ret": "wt", "%0 = nil %1 = load.p %0 0 ret": "rt", "br b1 b1: br b1": "o", "call.n main ret": "to"} {
			p := program(t, chain(count, last))
			for k, e := range Of(p) {
				want := does(do)
				want.Traps = want.Traps || k < count-1
				if e != want {
					t.Errorf("%d functions, %s: number %d does %s, want %s", count, last, k, words(e), words(want))
				}
			}
		}
	}
	mustDo(t, "func main() n { b0: %0 = new i call.n f ret } func f() n { b0: %0 = const 1 out %0 call.n g ret } func g() n { b0: br b1 b1: br b1 }", "main:mtgo f:tgo g:o")
}

// Promise 16.3: functions that nobody calls are told, too.
func TestNobodyCalls(t *testing.T) {
	mustDo(t, "func main() n { b0: ret } func f() n { b0: %0 = new i ret } func g() n { b0: call.n f %0 = const 1 out %0 ret }", "main:. f:m g:mtg")
	mustDo(t, "func f() n { b0: call.n main ret } func main() n { b0: %0 = const 1 out %0 ret }", "f:tg main:g")
}

// Promise 16.3: functions whose names begin alike, and a shape whose letters are the name of a function, are not mistaken.
func TestNames(t *testing.T) {
	mustDo(t, "func main() n { b0: call.n ff ret } func f() n { b0: %0 = new i ret } func ff() n { b0: %0 = const 1 out %0 ret } func fff() n { b0: br b1 b1: br b1 }", "main:tg f:m ff:g fff:o")
	mustDo(t, "func main() n { b0: %0 = new p ret } func p() n { b0: fail 1 }", "main:m p:t")
}

// Promise 16.3: one for each function, in their order.
func TestInTheirOrder(t *testing.T) {
	p := program(t, "func h() n { b0: %0 = new i ret } func main() n { b0: ret } func a() n { b0: fail 1 } func g() n { b0: br b1 b1: br b1 }")
	var got []string
	for _, e := range Of(p) {
		got = append(got, words(e))
	}
	if strings.Join(got, " ") != "m . t o" {
		t.Errorf("%q", got)
	}
}

// The chapter's example: in the example of chapter 13 cons writes, makes objects, and may trap; main does all.
func TestExample(t *testing.T) {
	mustDo(t, made.Example, "main:rwmtgo cons:wmt")
	mustDo(t, made.IntoExample, "main:rwmto")
}

// Promise 16.3: calls that stand in one order, and in the other one, in one block, and in several.
func TestEitherOrder(t *testing.T) {
	texts := []string{"func main() n { b0: call.n f call.n g ret }", "func f() n { b0: call.n g call.n h ret }", "func g() n { b0: %0 = new i ret }", "func h() n { b0: %0 = const 1 br b1 b1: out %0 call.n k br b2 b2: ret }", "func k() n { b0: %0 = nil %1 = load.p %0 3 ret }"}
	want := "main:rmtg f:rmtg g:m h:rtg k:rt"
	mustDo(t, strings.Join(texts, " "), want)
	slices.Reverse(texts)
	mustDo(t, strings.Join(texts, " "), want)
}
