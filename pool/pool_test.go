package pool

import (
	"math"
	"testing"

	"turntable/api"
)

// each hands over every shape that may be, from the least one to the greatest one.
func each(do func(x api.Shape)) {
	for slots := 0; slots <= 16; slots++ {
		for mask := range 1 << slots {
			do(api.Shape{Slots: slots, Mask: mask})
		}
	}
}

// The chapter's example.
func TestExample(t *testing.T) {
	p, _ := both(t, "ip", "i")
	if trap := p.Store(1, 1, true, 2); trap != 0 {
		t.Errorf("Store traps by %d", trap)
	}
	mustReach(t, p, []int{1}, 1, 2)
	mustReach(t, p, []int{2}, 2)
}

// Promises 12.1 to 12.5: a pool without objects, as it is made, and as its zero value.
func TestEmpty(t *testing.T) {
	for when, p := range map[string]*Pool{"new": New(), "the zero value": {}} {
		mustHold(t, when, p, nil)
		for _, id := range append(outside(1), 0) {
			for _, slot := range append(outside(16), 0, 15) {
				mustSlot(t, when, p, nil, id, slot)
				storeBoth(t, p, nil, id, slot, false, 7)
				storeBoth(t, p, nil, id, slot, true, 7)
			}
		}
		mustReach(t, p, nil)
		mustReach(t, p, []int{})
		mustReach(t, p, []int{0, 1, 2, -1, math.MinInt, math.MaxInt})
		mustHold(t, when+", asked", p, nil)
		p.Wipe()
		mustHold(t, when+", wiped", p, nil)
		if id := p.Make(shaped("ip")); id != 1 {
			t.Errorf("%s: the first object is %d", when, id)
		}
	}
}

// Promises 12.1 and 12.3: an object of each shape that may be; its number, and how many there are, and words, then.
func TestMakeEach(t *testing.T) {
	p := New()
	for _, when := range []string{"new", "wiped", "wiped again"} {
		count, words := 0, 0
		each(func(x api.Shape) {
			count, words = count+1, words+1+x.Slots
			if id := p.Make(x); id != count || p.Len() != count || p.Words() != words || p.Shape(id) != x {
				t.Fatalf("%s: of %v object %d: %d of %d words, want object %d of %d", when, x, id, p.Len(), p.Words(), count, words)
			}
			if got := p.Shape(count + 1); got != (api.Shape{}) {
				t.Fatalf("%s: object %d is not made yet, and it is %v", when, count+1, got)
			}
		})
		count = 0
		each(func(x api.Shape) {
			count++
			if got := p.Shape(count); got != x {
				t.Fatalf("%s: object %d is %v, want %v", when, count, got, x)
			}
		})
		if count != 1<<17-1 {
			t.Fatalf("%d shapes", count)
		}
		p.Wipe()
	}
}

// Promises 12.1 to 12.3 and 12.6: each slot of each shape holds 0 at first, is there, and is loaded and stored as what it is alone.
func TestSlotsOfEach(t *testing.T) {
	p := New()
	each(func(x api.Shape) {
		l := plain{{letters: lettered(x), slots: make([]int64, x.Slots)}}
		p.Wipe()
		p.Make(x)
		for slot := -1; slot <= 17; slot++ {
			mustSlot(t, "made", p, l, 1, slot)
			for _, pointer := range []bool{false, true} {
				storeBoth(t, p, l, 1, slot, pointer, int64(100+slot))
			}
			mustSlot(t, "stored", p, l, 1, slot)
		}
		for slot := -1; slot <= 17; slot++ {
			mustSlot(t, "all stored", p, l, 1, slot)
		}
	})
}

// Promise 12.2: nil, objects and slots that are not there, and slots of the other kind: the trap, and a Store that traps changes nothing.
func TestTraps(t *testing.T) {
	letters := []string{"", "i", "p", "ip", "pi", "iiiiiiiiiiiiiiii", "pppppppppppppppp", "pipipipipipipipi", "", "iip"}
	p, l := both(t, letters...)
	for i, s := range letters {
		for slot, c := range s {
			storeBoth(t, p, *l, i+1, slot, c == 'p', int64(1000*i+slot))
		}
	}
	mustHold(t, "stored", p, *l)
	ids := append(outside(len(letters)+1), 0)
	for i := range letters {
		ids = append(ids, i+1)
	}
	for _, id := range ids {
		for _, slot := range append(outside(16), 0, 1, 2, 15) {
			mustSlot(t, "stored", p, *l, id, slot)
			for _, pointer := range []bool{false, true} {
				if l.trap(id, slot, pointer) != 0 {
					storeBoth(t, p, *l, id, slot, pointer, 77)
				}
			}
		}
	}
	mustHold(t, "stored where it traps", p, *l)
}

// Promise 12.2: TrapNil is told ahead of what else is wrong, and of the number 0 alone.
func TestNilFirst(t *testing.T) {
	for _, objects := range []int{0, 1, 2} {
		p := New()
		for range objects {
			p.Make(shaped("ip"))
		}
		for _, slot := range append(outside(2), 0, 1) {
			for _, pointer := range []bool{false, true} {
				if n, trap := p.Load(0, slot, pointer); n != 0 || trap != api.TrapNil {
					t.Errorf("Load of nil = %d, %d", n, trap)
				}
				if trap := p.Store(0, slot, pointer, 5); trap != api.TrapNil {
					t.Errorf("Store into nil = %d", trap)
				}
			}
			if trap := p.Slot(0, slot); trap != api.TrapNil {
				t.Errorf("Slot of nil = %d", trap)
			}
			if trap := p.Slot(-1, slot); trap != api.TrapSlot {
				t.Errorf("Slot of object -1 = %d", trap)
			}
		}
	}
}

// Promises 12.2 and 12.6: any number may be stored, into a slot for pointers, too, whether it is an object or not.
func TestAnyNumber(t *testing.T) {
	p, l := both(t, "ip", "pi")
	for _, n := range []int64{math.MinInt64, math.MinInt64 + 1, math.MinInt32 - 1, math.MinInt32, -3, -1, 0, 1, 2, 3,
		math.MaxInt32, math.MaxInt32 + 1, 1 << 32, 1<<32 + 1, 1 << 53, 1<<53 + 1, math.MaxInt64 - 1, math.MaxInt64} {
		storeBoth(t, p, *l, 1, 0, false, n)
		storeBoth(t, p, *l, 1, 1, true, n)
		mustHold(t, "stored into the first one", p, *l)
		storeBoth(t, p, *l, 2, 0, true, -1-n)
		storeBoth(t, p, *l, 2, 1, false, n/3)
		mustHold(t, "stored into both", p, *l)
	}
}

// Promise 12.3: Len, Words and Shape as objects are made, and that stores change none of them.
func TestSizes(t *testing.T) {
	p, l := both(t)
	for _, letters := range []string{"", "i", "", "p", "pppppppppppppppp", "ip", "iiiiiiiiiiiiiiii", "", "ippi"} {
		makeBoth(t, p, l, letters)
		mustHold(t, "made "+letters, p, *l)
		for slot, c := range letters {
			storeBoth(t, p, *l, len(*l), slot, c == 'p', int64(slot))
		}
		mustHold(t, "stored into "+letters, p, *l)
	}
	if p.Len() != 9 || p.Words() != 49 {
		t.Errorf("%d objects of %d words, want 9 of 49", p.Len(), p.Words())
	}
}

// Promise 12.5: behind Wipe nothing is left: no object, no word, and nothing of what slots held in those that are made then.
func TestWipe(t *testing.T) {
	p, l := both(t, "ipp", "p", "iiii")
	for round := range 4 {
		for i, o := range *l {
			for slot, c := range o.letters {
				storeBoth(t, p, *l, i+1, slot, c == 'p', int64(1+slot%3))
			}
		}
		mustHold(t, "stored", p, *l)
		count := len(*l)
		p.Wipe()
		*l = nil
		mustHold(t, "wiped", p, nil)
		mustReach(t, p, []int{1, 2, 3, count})
		p.Wipe()
		mustHold(t, "wiped twice", p, nil)
		for id := 1; id <= count; id++ {
			for slot := range 4 {
				storeBoth(t, p, nil, id, slot, false, 9)
				storeBoth(t, p, nil, id, slot, true, 9)
			}
		}
		// Other shapes and other counts than before, so that slots stand where others stood.
		for _, letters := range []string{"iiii", "ppp", "", "pi", "ppppp", "i"}[round:] {
			makeBoth(t, p, l, letters)
			mustHold(t, "made anew", p, *l)
		}
	}
}

// The chapter's way: what is taken away is cleared, so that the list's memory keeps nothing of it.
func TestWipeClears(t *testing.T) {
	p, _ := both(t, "ipp", "p", "iiii")
	p.Wipe()
	for i, o := range p.objects[:cap(p.objects)] {
		if o.slots != nil || o.shape != (api.Shape{}) {
			t.Errorf("object %d is still kept: %v", i+1, o)
		}
	}
}

// Of shapes that may not be, and of a nil pool, nothing is promised, but that every call ends; and no such object is made.
func TestNotPromised(t *testing.T) {
	p, l := both(t, "ip")
	var none *Pool
	for _, slots := range []int{math.MinInt, -17, -1, 0, 3, 16, 17, 64, 1 << 40, math.MaxInt} {
		for _, mask := range []int{math.MinInt, -1, 65536, 1 << 40, math.MaxInt} {
			p.Make(api.Shape{Slots: slots, Mask: mask})
			none.Make(api.Shape{Slots: slots, Mask: mask})
		}
	}
	mustHold(t, "beside shapes that may not be", p, *l)
	none.Make(api.Shape{Slots: 1})
	none.Wipe()
	mustHold(t, "no pool", none, nil)
	mustReach(t, none, []int{0, 1, -1})
	storeBoth(t, none, nil, 1, 0, false, 1)
}
