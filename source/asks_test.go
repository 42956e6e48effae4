package source

import (
	"strconv"
	"strings"
	"testing"

	"turntable/api"
)

// asked is instructions that ask objects, behind those that ready makes, and the trap by which it ends, if any.
type asked struct {
	text string
	trap int
}

// ready makes what is asked: a number, an object of each kind, one without slots, one with as many as there may be, nil.
const ready = "%1 = const 7 %2 = new ip %3 = new . %4 = new iiiiiiiipppppppp %5 = nil "

// words is how many words these objects take.
const words = 3 + 1 + 17

// mustAsk holds by which trap each of some ends: the last of its instructions is the one that traps; else all of them are done.
func mustAsk(t *testing.T, list ...asked) {
	t.Helper()
	for _, a := range list {
		text := "func main() n { b0: " + ready + "out %1 " + a.text + " ret }"
		p := read(t, text)
		want := exits(0, len(p.Funcs[0].Blocks[0]), words, 7)
		if a.trap != 0 {
			want = traps(a.trap, len(p.Funcs[0].Blocks[0])-1, words, 7)
		}
		must(t, text, nil, want)
	}
}

// Promise 13.4: load and store, of slots that are there, that are not, of the other kind, and of nil.
func TestLoadStore(t *testing.T) {
	for _, a := range []asked{
		{"%2 0i", 0}, {"%2 1p", 0}, {"%2 1i", api.TrapSlot}, {"%2 0p", api.TrapSlot}, {"%2 2i", api.TrapSlot}, {"%2 2p", api.TrapSlot}, {"%2 15i", api.TrapSlot}, {"%2 15p", api.TrapSlot},
		{"%3 0i", api.TrapSlot}, {"%3 0p", api.TrapSlot}, {"%3 15i", api.TrapSlot}, {"%3 15p", api.TrapSlot},
		{"%4 0i", 0}, {"%4 7i", 0}, {"%4 8i", api.TrapSlot}, {"%4 7p", api.TrapSlot}, {"%4 8p", 0}, {"%4 15p", 0}, {"%4 15i", api.TrapSlot}, {"%4 0p", api.TrapSlot},
		{"%5 0i", api.TrapNil}, {"%5 0p", api.TrapNil}, {"%5 1i", api.TrapNil}, {"%5 1p", api.TrapNil}, {"%5 15i", api.TrapNil}, {"%5 15p", api.TrapNil},
	} {
		place, kind := a.text[:len(a.text)-1], a.text[len(a.text)-1:]
		stored := map[string]string{"i": "%1", "p": "%2"}[kind]
		mustAsk(t,
			asked{"%9 = load." + kind + " " + place, a.trap},
			asked{"store." + kind + " " + place + " " + stored, a.trap},
		)
	}
	// Nil is stored as any other pointer is.
	mustAsk(t, asked{"store.p %2 1 %5", 0}, asked{"store.p %2 0 %5", api.TrapSlot}, asked{"store.p %5 0 %5", api.TrapNil})
}

// Promise 13.4: slot, of slots that are there, of either kind, that are not, and of nil.
func TestSlot(t *testing.T) {
	mustAsk(t,
		asked{"%9 = slot %2 0", 0}, asked{"%9 = slot %2 1", 0}, asked{"%9 = slot %2 2", api.TrapSlot}, asked{"%9 = slot %2 15", api.TrapSlot},
		asked{"%9 = slot %3 0", api.TrapSlot}, asked{"%9 = slot %3 15", api.TrapSlot},
		asked{"%9 = slot %4 0", 0}, asked{"%9 = slot %4 7", 0}, asked{"%9 = slot %4 8", 0}, asked{"%9 = slot %4 15", 0},
		asked{"%9 = slot %5 0", api.TrapNil}, asked{"%9 = slot %5 15", api.TrapNil},
	)
}

// Promise 13.4: get and put, by a pointer into an object: of its slot, whatever kind is asked for.
func TestGetPut(t *testing.T) {
	for _, a := range []asked{
		{"%2 0i", 0}, {"%2 1p", 0}, {"%2 1i", api.TrapSlot}, {"%2 0p", api.TrapSlot},
		{"%4 0i", 0}, {"%4 7i", 0}, {"%4 8i", api.TrapSlot}, {"%4 7p", api.TrapSlot}, {"%4 8p", 0}, {"%4 15p", 0}, {"%4 15i", api.TrapSlot}, {"%4 0p", api.TrapSlot},
	} {
		place, kind := a.text[:len(a.text)-1], a.text[len(a.text)-1:]
		stored := map[string]string{"i": "%1", "p": "%2"}[kind]
		mustAsk(t,
			asked{"%8 = slot " + place + " %9 = get." + kind + " %8", a.trap},
			asked{"%8 = slot " + place + " put." + kind + " %8 " + stored, a.trap},
		)
	}
	mustAsk(t, asked{"%8 = slot %2 1 put.p %8 %5", 0}, asked{"%8 = slot %2 0 put.p %8 %5", api.TrapSlot})
}

// Promise 13.4: what was stored is loaded, by whichever way it is asked; each slot of each object holds its own.
func TestStoredIsLoaded(t *testing.T) {
	text := `func main(i) i {
b0: %1 = const 10 %2 = const 20 %3 = new iip %4 = new iip %5 = slot %3 0 %6 = slot %3 1 %7 = slot %3 2 %8 = slot %4 2
 store.i %3 0 %1 put.i %6 %2 store.p %3 2 %4 put.p %8 %3
 %10 = load.i %3 0 out %10 %11 = get.i %5 out %11 %12 = load.i %3 1 out %12 %13 = get.i %6 out %13
 %14 = load.p %3 2 %15 = same %14 %4 out %15 %16 = get.p %7 %17 = same %16 %4 out %17
 %18 = load.p %4 2 %19 = same %18 %3 out %19 %20 = get.p %8 %21 = same %20 %3 out %21
 %22 = load.i %4 0 out %22 %23 = load.i %4 1 out %23
 put.i %5 %0 %24 = load.i %3 0 out %24 store.i %3 1 %0 %25 = get.i %6 out %25
 %26 = nil put.p %7 %26 %27 = load.p %3 2 %28 = same %27 %26 out %28 %29 = load.i %18 0 ret %29
}`
	count := len(read(t, text).Funcs[0].Blocks[0])
	must(t, text, []int64{-5}, exits(-5, count, 8, 10, 10, 20, 20, 1, 1, 1, 1, 0, 0, -5, -5, 1))
}

// Promise 13.4: each slot of an object with as many as there may be, of numbers and of pointers.
func TestEachSlot(t *testing.T) {
	stores, loads := "", ""
	var want []int64
	for slot := range api.MaxSlots {
		held := int64(500 + slot)
		// What stands between brackets is a value of this slot's own.
		fill := strings.NewReplacer("<", "%"+strconv.Itoa(slot+1)+"00", ">", "", "SLOT", strconv.Itoa(slot), "HELD", strconv.FormatInt(held, 10))
		stores += fill.Replace("<1> = const HELD store.i %1 SLOT <1> <2> = new i store.i <2> 0 <1> store.p %2 SLOT <2> ")
		loads += fill.Replace("<3> = load.i %1 SLOT out <3> <4> = slot %1 SLOT <5> = get.i <4> out <5> ")
		loads += fill.Replace("<6> = load.p %2 SLOT <7> = load.i <6> 0 out <7> <8> = slot %2 SLOT <9> = get.p <8> <10> = load.i <9> 0 out <10> ")
		want = append(want, held, held, held, held)
	}
	text := "func main() n { b0: %1 = new iiiiiiiiiiiiiiii %2 = new pppppppppppppppp " + stores + loads + "ret }"
	count := len(read(t, text).Funcs[0].Blocks[0])
	must(t, text, nil, exits(0, count, 17+17+16*2, want...))
}

// Promise 13.4: objects are shared: what a called function stores is there behind the call, and what one pointer stores the other one loads.
func TestShared(t *testing.T) {
	must(t, `func main() i { b0: %1 = new ip %2 = const 9 call.n f %1 %2 %3 = load.i %1 0 out %3 %4 = load.p %1 1 %5 = same %4 %1 ret %5 }
func f(p i) n { b0: store.i %0 0 %1 store.p %0 1 %0 ret }`, nil, exits(1, 8+3, 3, 9))
}

// Promise 13.4: which object a pointer into one is into, and to which slot, goes round by phis.
func TestIntoByPhi(t *testing.T) {
	text := `func main(i) i {
b0: %1 = const 3 %2 = const 4 %3 = new iii %4 = new iii store.i %3 1 %1 store.i %4 2 %2 if %0 b1 b2
b1: %5 = slot %3 1 br b3
b2: %6 = slot %4 2 br b3
b3: %7 = phi.d b1 %5 b2 %6 %8 = phi.p b1 %4 b2 %3 %9 = get.i %7 put.i %7 %0 %10 = load.i %8 1 out %10 %11 = load.i %3 1 out %11 ret %9
}`
	must(t, text, []int64{1}, exits(3, 7+2+9, 8, 0, 1))
	must(t, text, []int64{0}, exits(4, 7+2+9, 8, 3, 3))
}

// Promise 13.4: a trap ends the run, whichever function is at work, and leaves what was given out ahead of it.
func TestTrapLeaves(t *testing.T) {
	for text, trap := range map[string]int{
		"%9 = load.i %5 0":             api.TrapNil,
		"%9 = load.p %5 3":             api.TrapNil,
		"store.i %5 0 %1":              api.TrapNil,
		"store.p %5 0 %5":              api.TrapNil,
		"%9 = slot %5 0":               api.TrapNil,
		"%9 = load.i %2 1":             api.TrapSlot,
		"%9 = slot %3 0":               api.TrapSlot,
		"%8 = slot %2 0 %9 = get.p %8": api.TrapSlot,
		"%8 = slot %2 1 put.i %8 %1":   api.TrapSlot,
		"%8 = const 0 %9 = div %1 %8":  api.TrapDiv,
		"call.n g":                     api.TrapFail + 9,
	} {
		trapping := ready + " out %1 " + text + " out %1 ret } func g() n { b0: fail 9 }"
		p := read(t, "func main() n { b0: "+trapping)
		got := Go(p, nil, enough)
		if got.Ended != api.Traps || got.Trap != trap || got.N != 0 || got.Words != words || len(got.Out) != 1 || got.Out[0] != 7 {
			t.Errorf("%s: %+v, want the trap %d", text, got, trap)
		}
		must(t, "func main() n { b0: "+trapping, nil, got)
		// In a function that was called: nothing is done behind the call, either.
		deep := "func main() i { b0: %1 = const 5 out %1 call.n f out %1 ret %1 } func f() n { b0: " + trapping
		want := traps(trap, got.Steps+3, words, 5, 7)
		must(t, deep, nil, want)
	}
}
