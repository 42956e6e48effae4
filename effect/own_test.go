package effect

import (
	"math"
	"testing"

	"turntable/api"
	"turntable/made"
)

// owned is what the instructions do by themselves, by their operations, as the chapters tell it.
func owned(op int) string {
	switch op {
	case api.ODiv, api.OSlot, api.OCall, api.OFail:
		return "t"
	case api.OLoadI, api.OLoadP, api.OGetI, api.OGetP:
		return "rt"
	case api.OStoreI, api.OStoreP, api.OPutI, api.OPutP:
		return "wt"
	case api.ONew:
		return "m"
	case api.OOut:
		return "g"
	}
	return "."
}

// Promise 16.1: each operation; of call Traps alone, and of poll, mark, reloc, phi and what goes elsewhere nothing.
func TestOwn(t *testing.T) {
	count := map[string]int{}
	for op := api.OConst; op <= api.OFail; op++ {
		got := words(Own(api.Instr{Op: op}))
		if got != owned(op) {
			t.Errorf("operation %d does %s, want %s", op, got, owned(op))
		}
		count[got]++
	}
	if len(count) != 6 || count["t"] != 4 || count["rt"] != 4 || count["wt"] != 4 || count["m"] != 1 || count["g"] != 1 || count["."] != 15 {
		t.Errorf("%v", count)
	}
}

// Promise 16.1: what an instruction does hangs on its operation alone: also a division by a number that is known traps.
func TestOwnByOperation(t *testing.T) {
	m := made.New(1)
	for range 2000 {
		x := api.Instr{Op: 1 + m.Intn(api.OFail), Id: m.Intn(9) - 1, N: int64(m.Intn(9) - 4), Type: m.Intn(4), Args: m.Labels(m.Intn(4), 9), To: m.Labels(m.Intn(3), 9), Name: []string{"", "i", "main", "f"}[m.Intn(4)], At: m.Intn(9)}
		if got := words(Own(x)); got != owned(x.Op) {
			t.Fatalf("%v does %s, want %s", x, got, owned(x.Op))
		}
	}
}

// Promise 16.1: of what is no operation nothing is told; nor of a move, which stands in code alone.
func TestOwnOfNone(t *testing.T) {
	for _, op := range []int{0, -1, -api.OCall, api.OMove, api.OMove + 1, 255, 256 + api.ONew, 1<<32 + api.OOut, 1<<32 + api.OCall, math.MaxInt, math.MinInt} {
		if got := Own(api.Instr{Op: op, Name: "main"}); got != (api.Effect{}) {
			t.Errorf("operation %d does %s", op, words(got))
		}
	}
}

// Promise 16.4: Quiet of each thing alone, of nothing, of all, and of all others: reading, and making objects, are quiet.
func TestQuiet(t *testing.T) {
	for text, want := range map[string]bool{".": true, "r": true, "m": true, "rm": true, "w": false, "t": false, "g": false, "o": false, "rwmtgo": false, "wtgo": false} {
		if got := Quiet(does(text)); got != want {
			t.Errorf("%s is quiet: %v, want %v", text, got, want)
		}
	}
	quiet := 0
	for bits := range 1 << len(letters) {
		var e api.Effect
		loud := false
		for i, field := range fields(&e) {
			*field = bits>>i&1 == 1
			loud = loud || *field && letters[i] != 'r' && letters[i] != 'm'
		}
		if got := Quiet(e); got == loud {
			t.Errorf("%s is quiet: %v", words(e), got)
		}
		if Quiet(e) {
			quiet++
		}
	}
	if quiet != 4 {
		t.Errorf("%d of all are quiet, want 4", quiet)
	}
}
