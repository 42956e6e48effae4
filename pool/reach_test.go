package pool

import (
	"math"
	"slices"
	"testing"

	"turntable/api"
	"turntable/made"
)

// linked is a pool of objects of pointers alone, each of which holds what is told of it.
func linked(t *testing.T, holds ...[]int64) *Pool {
	t.Helper()
	p := New()
	for _, l := range holds {
		p.Make(api.Shape{Slots: len(l), Mask: 1<<len(l) - 1})
	}
	for i, l := range holds {
		for slot, n := range l {
			if trap := p.Store(i+1, slot, true, n); trap != 0 {
				t.Fatalf("Store(%d, %d) traps by %d", i+1, slot, trap)
			}
		}
	}
	return p
}

// Promise 12.4: what is asked from: nothing, numbers that are no objects, some of them twice, in their order.
func TestReachFrom(t *testing.T) {
	p := linked(t, nil, []int64{0}, nil, []int64{0, 0}, nil)
	mustReach(t, p, nil)
	mustReach(t, p, []int{})
	mustReach(t, p, []int{0})
	mustReach(t, p, []int{0, 6, 7, -1, -2, -5, math.MinInt, math.MaxInt, 1 << 32, 1<<32 + 1, -1 << 32, 1<<32 + 5})
	mustReach(t, p, []int{1}, 1)
	mustReach(t, p, []int{5}, 5)
	mustReach(t, p, []int{3, 3, 3}, 3)
	mustReach(t, p, []int{5, 3, 1, 4, 2}, 5, 3, 1, 4, 2)
	mustReach(t, p, []int{4, 2, 4, 1, 2, 1, 4}, 4, 2, 1)
	mustReach(t, p, []int{0, 2, -1, 2, 6, 0, 5, math.MaxInt, 1}, 2, 5, 1)
}

// Promise 12.4: objects that hold themselves, and each other, are met once.
func TestReachRound(t *testing.T) {
	p := linked(t, []int64{1}, []int64{2, 2, 2}, []int64{4}, []int64{3}, []int64{6, 5}, []int64{7, 5}, []int64{5, 6, 7})
	mustReach(t, p, []int{1}, 1)
	mustReach(t, p, []int{2, 1, 2}, 2, 1)
	mustReach(t, p, []int{3}, 3, 4)
	mustReach(t, p, []int{4}, 4, 3)
	mustReach(t, p, []int{4, 3}, 4, 3)
	mustReach(t, p, []int{5}, 5, 6, 7)
	mustReach(t, p, []int{6}, 6, 7, 5)
	mustReach(t, p, []int{7, 4}, 7, 4, 5, 6, 3)
}

// Promise 12.4: the order: all that are asked from; then object by object, as they were met, and slot by slot.
func TestReachOrder(t *testing.T) {
	p := linked(t, []int64{3, 2}, []int64{5, 4}, []int64{7, 6}, nil, []int64{8}, []int64{9}, nil, []int64{4, 6}, []int64{1})
	// Neither the kids of the first kid are next, nor is the last slot asked ahead of the first one, nor do numbers rise.
	mustReach(t, p, []int{1}, 1, 3, 2, 7, 6, 5, 4, 9, 8)
	mustReach(t, p, []int{2}, 2, 5, 4, 8, 6, 9, 1, 3, 7)
	mustReach(t, p, []int{8}, 8, 4, 6, 9, 1, 3, 2, 7, 5)
	// What is asked from comes ahead of what is held, and is not met again there.
	mustReach(t, p, []int{1, 8}, 1, 8, 3, 2, 4, 6, 7, 5, 9)
	mustReach(t, p, []int{1, 2, 3}, 1, 2, 3, 5, 4, 7, 6, 8, 9)
	mustReach(t, p, []int{7, 4}, 7, 4)
}

// Promise 12.4: slots hold numbers that are no objects, and nil: these are passed by, and what stands behind them is met.
func TestReachNone(t *testing.T) {
	p := linked(t, []int64{0, 4, -1, math.MinInt64, math.MaxInt64, 1<<32 + 2, 1 << 32, -1<<32 + 2, 5, 3, 0, -3}, nil, nil)
	mustReach(t, p, []int{1}, 1, 3)
	// A number that was no object when it was stored is one as soon as there is that one.
	p.Make(shaped("i"))
	mustReach(t, p, []int{1}, 1, 4, 3)
	p.Make(shaped("p"))
	mustReach(t, p, []int{1}, 1, 4, 5, 3)
}

// Promise 12.4: slots that hold no pointers are passed by, though they hold an object's number.
func TestReachNumbers(t *testing.T) {
	p, l := both(t, "ipip", "i", "pi", "iiiiiiiiiiiiiiii", "iiiiiiiiiiiiiiip")
	for i, o := range *l {
		for slot, c := range o.letters {
			if c == 'i' {
				storeBoth(t, p, *l, i+1, slot, false, int64(1+(i+slot)%5))
			}
		}
	}
	for id := 1; id <= 5; id++ {
		mustReach(t, p, []int{id}, id)
	}
	storeBoth(t, p, *l, 1, 3, true, 5)
	storeBoth(t, p, *l, 5, 15, true, 3)
	mustReach(t, p, []int{1}, 1, 5, 3)
	storeBoth(t, p, *l, 1, 1, true, 2)
	mustReach(t, p, []int{1}, 1, 2, 5, 3)
	storeBoth(t, p, *l, 1, 3, true, 0)
	mustReach(t, p, []int{1}, 1, 2)
}

// Promise 12.4: each slot of as many as there may be leads on, by itself.
func TestReachEachSlot(t *testing.T) {
	for slots := 1; slots <= 16; slots++ {
		for slot := range slots {
			p := New()
			p.Make(api.Shape{Slots: slots, Mask: 1 << slot})
			p.Make(api.Shape{})
			if trap := p.Store(1, slot, true, 2); trap != 0 {
				t.Fatalf("Store of slot %d of %d traps by %d", slot, slots, trap)
			}
			mustReach(t, p, []int{1}, 1, 2)
		}
	}
}

// Promise 12.4: long rows, forwards and backwards, from their beginning, their middle, and their end.
func TestReachLong(t *testing.T) {
	const count = 300000
	p := New()
	for range count {
		p.Make(shaped("pip"))
	}
	for id := 1; id <= count; id++ {
		p.Store(id, 0, true, int64(id-1))
		p.Store(id, 1, false, int64(1+id%7))
	}
	row := p.Reach([]int{count})
	for i, id := range row {
		if id != count-i {
			t.Fatalf("backwards %d is met as the %dth", id, i)
		}
	}
	if len(row) != count {
		t.Fatalf("%d objects of the row are reached", len(row))
	}
	mustReach(t, p, []int{3}, 3, 2, 1)
	for id := 1; id <= count; id++ {
		p.Store(id, 0, true, 0)
		p.Store(id, 2, true, int64(id+1))
	}
	row = p.Reach([]int{1, 1})
	if len(row) != count || !slices.IsSorted(row) || row[0] != 1 || row[count-1] != count {
		t.Fatalf("forwards %d objects are reached", len(row))
	}
	if got := len(p.Reach([]int{count / 2})); got != count/2+1 {
		t.Fatalf("from the middle %d objects are reached", got)
	}
	mustReach(t, p, []int{count}, count)
}

// Promise 12.4: many objects of many slots that all hold many: each is met once, and the call does not go the same way twice.
func TestReachMany(t *testing.T) {
	const count = 20000
	p := New()
	for range count {
		p.Make(api.Shape{Slots: 16, Mask: 65535})
	}
	for id := 1; id <= count; id++ {
		for slot := range 16 {
			p.Store(id, slot, true, int64(1+(16*(id-1)+slot+1)%count))
		}
	}
	got := p.Reach([]int{1})
	for i, id := range got {
		if id != i+1 {
			t.Fatalf("the %dth that is met is %d", i, id)
		}
	}
	if len(got) != count {
		t.Fatalf("%d objects are reached", len(got))
	}
}

// Promise 12.4: graphs by chance, held against a search that begins anew for each object.
func TestReachByChance(t *testing.T) {
	m := made.New(12)
	for range 3000 {
		p, l := both(t)
		for range m.Intn(12) {
			makeBoth(t, p, l, someLetters(m))
		}
		for i, o := range *l {
			for slot, c := range o.letters {
				if m.Intn(3) > 0 {
					storeBoth(t, p, *l, i+1, slot, c == 'p', someNumber(m, len(*l)))
				}
			}
		}
		for range 4 {
			var from []int
			for range m.Intn(4) {
				from = append(from, int(someNumber(m, len(*l))))
			}
			mustReach(t, p, from, l.reach(from)...)
		}
		mustHold(t, "asked", p, *l)
	}
}
