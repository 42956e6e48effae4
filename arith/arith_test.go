package arith

import (
	"math"
	"math/big"
	"testing"

	"turntable/api"
)

const (
	least    = math.MinInt64
	greatest = math.MaxInt64
)

// six is the operations on numbers.
var six = []int{api.OAdd, api.OSub, api.OMul, api.ODiv, api.OLt, api.OEq}

// turning is the operations that turn.
var turning = []int{api.OAdd, api.OMul, api.OEq, api.OSame}

// edges is numbers around all edges: 0, 1, the roots of 2^63 and 2^64, halves of these, the ends of 64 bits.
var edges = []int64{0, 1, -1, 2, -2, 3, -3, 5, -5, 7, -7, 10, -10, 100, -100, 12345678901, -12345678901,
	math.MaxInt32, math.MaxInt32 + 1, math.MinInt32, math.MinInt32 - 1, 1 << 32, 1<<32 + 1, 1<<32 - 1, -1 << 32, -1<<32 - 1,
	3037000499, 3037000500, -3037000500, 4294967296, 1 << 62, 1<<62 - 1, 1<<62 + 1, -1 << 62, -1<<62 - 1, -1<<62 + 1,
	greatest, greatest - 1, greatest - 2, greatest / 2, least, least + 1, least + 2, least / 2}

// has tells whether an operation stands in a list.
func has(list []int, op int) bool {
	for _, x := range list {
		if x == op {
			return true
		}
	}
	return false
}

// eachOp hands over all operations of api, and numbers that are none.
func eachOp(do func(op int)) {
	for op := -300; op <= 300; op++ {
		do(op)
	}
	for _, op := range []int{math.MinInt, math.MinInt + 1, math.MinInt + api.OAdd, math.MaxInt, math.MaxInt - 1, 1<<32 + api.OAdd, 1<<32 + api.ODiv, -1<<32 + api.OMul, 1<<16 + api.OSub, 1<<31 + api.OEq} {
		do(op)
	}
}

// left is the number of 64 bits with a sign that is left of a great one, by 2^64.
func left(x *big.Int) int64 {
	whole := new(big.Int).Lsh(big.NewInt(1), 64)
	rest := new(big.Int).Mod(x, whole)
	if rest.Bit(63) == 1 {
		rest.Sub(rest, whole)
	}
	return rest.Int64()
}

// wanted is what Do must answer, found out by numbers of any size.
func wanted(op int, a, b int64) (int64, int) {
	x, y := big.NewInt(a), big.NewInt(b)
	switch op {
	case api.OAdd:
		return left(new(big.Int).Add(x, y)), 0
	case api.OSub:
		return left(new(big.Int).Sub(x, y)), 0
	case api.OMul:
		return left(new(big.Int).Mul(x, y)), 0
	case api.ODiv:
		if b == 0 {
			return 0, 3
		}
		return left(new(big.Int).Quo(x, y)), 0
	case api.OLt:
		if x.Cmp(y) < 0 {
			return 1, 0
		}
	case api.OEq:
		if x.Cmp(y) == 0 {
			return 1, 0
		}
	}
	return 0, 0
}

// mustDo asks for what an operation makes, and no trap.
func mustDo(t *testing.T, op int, a, b, want int64) {
	t.Helper()
	if got, trap := Do(op, a, b); got != want || trap != 0 {
		t.Errorf("Do(%d, %d, %d) = %d, %d, want %d, 0", op, a, b, got, trap, want)
	}
}

// mustTrap asks for 0 and the trap of a division by 0.
func mustTrap(t *testing.T, a int64) {
	t.Helper()
	if got, trap := Do(api.ODiv, a, 0); got != 0 || trap != api.TrapDiv {
		t.Errorf("Do(ODiv, %d, 0) = %d, %d, want 0, TrapDiv", a, got, trap)
	}
}

// mustTell asks for what Simple answers, whatever stands in the places of numbers that are not known.
func mustTell(t *testing.T, op int, known [2]bool, n [2]int64, which int, made int64) {
	t.Helper()
	for _, other := range []int64{n[0], n[1], 0, 1, -1, 2, 9, least, greatest} {
		asked := n
		for place := range asked {
			if !known[place] {
				asked[place] = other
			}
		}
		if w, got := Simple(op, known, asked); w != which || got != made {
			t.Errorf("Simple(%d, %v, %d) = %d, %d, want %d, %d", op, known, asked, w, got, which, made)
		}
	}
}

// Which of the two numbers is known.
var (
	none   = [2]bool{}
	first  = [2]bool{true, false}
	second = [2]bool{false, true}
	both   = [2]bool{true, true}
)

// TestExample: the chapter's examples.
func TestExample(t *testing.T) {
	mustDo(t, api.ODiv, least, -1, least)
	mustTrap(t, 1)
	mustTell(t, api.OMul, first, [2]int64{0, 9}, 2, 0)
	mustTell(t, api.OMul, second, [2]int64{9, 0}, 2, 0)
}

// TestIs: promise 4.1, the six operations, and all that is none of them.
func TestIs(t *testing.T) {
	eachOp(func(op int) {
		if got := Is(op); got != has(six, op) {
			t.Errorf("Is(%d) = %v", op, got)
		}
	})
	for _, op := range []int{0, -1, api.OConst, api.ONil, api.OSame, api.OPhi, api.OFail, api.OMove, api.OMove + 1, math.MinInt, math.MaxInt} {
		if Is(op) {
			t.Errorf("Is(%d)", op)
		}
	}
}

// TestDo: promise 4.1, ordinary numbers.
func TestDo(t *testing.T) {
	mustDo(t, api.OAdd, 3, 5, 8)
	mustDo(t, api.OAdd, 3, -5, -2)
	mustDo(t, api.OAdd, -3, -5, -8)
	mustDo(t, api.OSub, 3, 5, -2)
	mustDo(t, api.OSub, 5, 3, 2)
	mustDo(t, api.OSub, -3, -5, 2)
	mustDo(t, api.OSub, 3, -5, 8)
	mustDo(t, api.OMul, 3, 5, 15)
	mustDo(t, api.OMul, -3, 5, -15)
	mustDo(t, api.OMul, -3, -5, 15)
	mustDo(t, api.ODiv, 15, 5, 3)
	mustDo(t, api.ODiv, 100, 10, 10)
	mustDo(t, api.OLt, 3, 5, 1)
	mustDo(t, api.OLt, 5, 3, 0)
	mustDo(t, api.OLt, -5, 3, 1)
	mustDo(t, api.OLt, 3, -5, 0)
	mustDo(t, api.OLt, -5, -3, 1)
	mustDo(t, api.OEq, 3, 5, 0)
	mustDo(t, api.OEq, 5, -5, 0)
	mustDo(t, api.OEq, 5, 5, 1)
}

// TestDoLeaves64Bits: promise 4.1, sums, differences and products of more than 64 bits.
func TestDoLeaves64Bits(t *testing.T) {
	mustDo(t, api.OAdd, greatest, 1, least)
	mustDo(t, api.OAdd, greatest, greatest, -2)
	mustDo(t, api.OAdd, least, -1, greatest)
	mustDo(t, api.OAdd, least, least, 0)
	mustDo(t, api.OSub, least, 1, greatest)
	mustDo(t, api.OSub, greatest, -1, least)
	mustDo(t, api.OSub, 0, least, least)
	mustDo(t, api.OSub, 5, least, least+5)
	mustDo(t, api.OSub, -1, least, greatest)
	mustDo(t, api.OSub, greatest, least, -1)
	mustDo(t, api.OSub, least, greatest, 1)
	mustDo(t, api.OMul, 1<<32, 1<<32, 0)
	mustDo(t, api.OMul, 1<<32, 1<<31, least)
	mustDo(t, api.OMul, greatest, 2, -2)
	mustDo(t, api.OMul, greatest, greatest, 1)
	mustDo(t, api.OMul, least, -1, least)
	mustDo(t, api.OMul, -1, least, least)
	mustDo(t, api.OMul, least, 2, 0)
	mustDo(t, api.OMul, least, least, 0)
	mustDo(t, api.OMul, 3037000500, 3037000500, -9223372036709301616)
}

// TestDoDivides: promise 4.1, quotients are cut towards 0, that of -2^63 and -1 is -2^63, and one by 0 traps.
func TestDoDivides(t *testing.T) {
	mustDo(t, api.ODiv, 7, 2, 3)
	mustDo(t, api.ODiv, -7, 2, -3)
	mustDo(t, api.ODiv, 7, -2, -3)
	mustDo(t, api.ODiv, -7, -2, 3)
	mustDo(t, api.ODiv, 1, 2, 0)
	mustDo(t, api.ODiv, -1, 2, 0)
	mustDo(t, api.ODiv, 1, -2, 0)
	mustDo(t, api.ODiv, -1, -2, 0)
	mustDo(t, api.ODiv, least, -1, least)
	mustDo(t, api.ODiv, least, 1, least)
	mustDo(t, api.ODiv, least, 2, least/2)
	mustDo(t, api.ODiv, least, 3, -3074457345618258602)
	mustDo(t, api.ODiv, least+1, -1, greatest)
	mustDo(t, api.ODiv, greatest, -1, least+1)
	mustDo(t, api.ODiv, greatest, least, 0)
	mustDo(t, api.ODiv, least, greatest, -1)
	for _, n := range edges {
		mustTrap(t, n)
		if n != 0 {
			mustDo(t, api.ODiv, 0, n, 0)
		}
	}
}

// TestDoItself: promise 4.1, a number and itself.
func TestDoItself(t *testing.T) {
	for _, n := range edges {
		mustDo(t, api.OSub, n, n, 0)
		mustDo(t, api.OLt, n, n, 0)
		mustDo(t, api.OEq, n, n, 1)
		if n != 0 {
			mustDo(t, api.ODiv, n, n, 1)
		}
	}
}

// TestDoAll: promise 4.1, all operations, and all that are none, on all pairs of numbers around the edges, held against numbers of any size.
func TestDoAll(t *testing.T) {
	for _, a := range edges {
		for _, b := range edges {
			for op := -2; op <= api.OMove+2; op++ {
				want, trap := wanted(op, a, b)
				if got, by := Do(op, a, b); got != want || by != trap {
					t.Errorf("Do(%d, %d, %d) = %d, %d, want %d, %d", op, a, b, got, by, want, trap)
				}
			}
		}
	}
}

// TestDoNone: promise 4.1, of any other operation 0 and 0, also of one that turns, and where another one would trap.
func TestDoNone(t *testing.T) {
	eachOp(func(op int) {
		if has(six, op) {
			return
		}
		for _, n := range [][2]int64{{3, 5}, {5, 5}, {0, 0}, {1, 0}, {0, 1}, {least, greatest}, {greatest, least}, {least, -1}} {
			mustDo(t, op, n[0], n[1], 0)
		}
	})
	mustDo(t, api.OSame, 5, 5, 0)
}

// TestTurns: promise 4.2, the four operations, and all that is none of them.
func TestTurns(t *testing.T) {
	eachOp(func(op int) {
		if got := Turns(op); got != has(turning, op) {
			t.Errorf("Turns(%d) = %v", op, got)
		}
	})
	for _, op := range []int{0, -1, api.OSub, api.ODiv, api.OLt, api.ONil, math.MinInt, math.MaxInt} {
		if Turns(op) {
			t.Errorf("Turns(%d)", op)
		}
	}
}

// TestTurnsTrue: promises 4.1 and 4.2, an operation on numbers turns just if it makes the same of all pairs the other way round.
func TestTurnsTrue(t *testing.T) {
	for _, op := range six {
		same := true
		for _, a := range edges {
			for _, b := range edges {
				x, trapX := Do(op, a, b)
				y, trapY := Do(op, b, a)
				same = same && x == y && trapX == trapY
			}
		}
		if same != Turns(op) {
			t.Errorf("Turns(%d) = %v", op, Turns(op))
		}
	}
}

// TestSimpleNone: promise 4.3, an operation that is none makes nothing that is known, whatever is known of its numbers.
func TestSimpleNone(t *testing.T) {
	eachOp(func(op int) {
		if has(six, op) {
			return
		}
		for _, known := range [][2]bool{none, first, second, both} {
			for _, n := range [][2]int64{{0, 0}, {1, 1}, {0, 1}, {1, 0}, {5, 5}, {least, greatest}} {
				mustTell(t, op, known, n, -1, 0)
			}
		}
	})
}

// TestSimpleBoth: promise 4.3, with both numbers known it is what Do makes, ahead of all other rows, unless that traps.
func TestSimpleBoth(t *testing.T) {
	mustTell(t, api.OAdd, both, [2]int64{0, 5}, 2, 5)
	mustTell(t, api.OAdd, both, [2]int64{0, 0}, 2, 0)
	mustTell(t, api.OAdd, both, [2]int64{5, 0}, 2, 5)
	mustTell(t, api.OSub, both, [2]int64{5, 0}, 2, 5)
	mustTell(t, api.OSub, both, [2]int64{0, 5}, 2, -5)
	mustTell(t, api.OMul, both, [2]int64{1, 5}, 2, 5)
	mustTell(t, api.OMul, both, [2]int64{5, 1}, 2, 5)
	mustTell(t, api.OMul, both, [2]int64{0, 1}, 2, 0)
	mustTell(t, api.OMul, both, [2]int64{1, 0}, 2, 0)
	mustTell(t, api.OMul, both, [2]int64{0, 5}, 2, 0)
	mustTell(t, api.ODiv, both, [2]int64{5, 1}, 2, 5)
	mustTell(t, api.ODiv, both, [2]int64{-7, 2}, 2, -3)
	mustTell(t, api.ODiv, both, [2]int64{least, -1}, 2, least)
	mustTell(t, api.OLt, both, [2]int64{3, 5}, 2, 1)
	mustTell(t, api.OEq, both, [2]int64{5, 5}, 2, 1)
	for _, a := range edges {
		mustTell(t, api.ODiv, both, [2]int64{a, 0}, -1, 0)
		for _, b := range edges {
			for _, op := range six {
				want, trap := wanted(op, a, b)
				if trap != 0 {
					mustTell(t, op, both, [2]int64{a, b}, -1, 0)
				} else {
					mustTell(t, op, both, [2]int64{a, b}, 2, want)
				}
			}
		}
	}
}

// TestSimpleOne: promise 4.3, with one number known there are these rows, and no others; what stands in the other's place is nothing.
func TestSimpleOne(t *testing.T) {
	type row struct {
		op     int
		known  [2]bool
		number int64
	}
	rows := map[row]int{
		{api.OAdd, first, 0}:  1,
		{api.OMul, first, 1}:  1,
		{api.OAdd, second, 0}: 0,
		{api.OSub, second, 0}: 0,
		{api.OMul, second, 1}: 0,
		{api.ODiv, second, 1}: 0,
		{api.OMul, first, 0}:  2,
		{api.OMul, second, 0}: 2,
	}
	met := 0
	for _, op := range six {
		for _, known := range [][2]bool{first, second} {
			for _, number := range edges {
				which, there := rows[row{op, known, number}]
				if there {
					met++
				} else {
					which = -1
				}
				mustTell(t, op, known, [2]int64{number, number}, which, 0)
			}
		}
	}
	if met != len(rows) {
		t.Errorf("%d rows of %d were met", met, len(rows))
	}
}

// TestSimpleUnknown: promise 4.3, with neither number known nothing is, also where the numbers told are 0, 1, or the same.
func TestSimpleUnknown(t *testing.T) {
	for _, op := range six {
		for _, a := range edges {
			for _, b := range []int64{a, 0, 1, -1, 5, least, greatest} {
				mustTell(t, op, none, [2]int64{a, b}, -1, 0)
			}
		}
	}
}

// mustHold asks whether what is known of an operation is what it makes, whatever the numbers are that are not known.
func mustHold(t *testing.T, op int, known [2]bool, n [2]int64) {
	t.Helper()
	which, told := Simple(op, known, n)
	if which != 2 && told != 0 {
		t.Errorf("Simple(%d, %v, %d) = %d, %d", op, known, n, which, told)
	}
	if which < 0 {
		return
	}
	for _, other := range edges {
		taken := n
		for place := range taken {
			if !known[place] {
				taken[place] = other
			}
		}
		want := told
		if which != 2 {
			want = taken[which]
		}
		if made, trap := Do(op, taken[0], taken[1]); made != want || trap != 0 {
			t.Errorf("Simple(%d, %v, %d) = %d, %d, but Do(%d, %d) = %d, %d", op, known, n, which, told, taken[0], taken[1], made, trap)
		}
	}
}

// TestSimpleTrue: promise 4.4, what is known is true.
func TestSimpleTrue(t *testing.T) {
	for op := -1; op <= api.OMove+1; op++ {
		for _, known := range [][2]bool{none, first, second, both} {
			for _, a := range edges {
				for _, b := range edges {
					mustHold(t, op, known, [2]int64{a, b})
				}
			}
		}
	}
}

// TestSame: promise P6, the same arguments are answered the same again, and what is handed in is left.
func TestSame(t *testing.T) {
	known, n := first, [2]int64{0, 9}
	for range 3 {
		mustTell(t, api.OAdd, known, n, 1, 0)
		mustDo(t, api.OSub, 9, 4, 5)
	}
	if known != first || n != [2]int64{0, 9} {
		t.Errorf("%v, %v", known, n)
	}
}
