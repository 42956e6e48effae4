package pool

import (
	"math"
	"slices"
	"strings"
	"testing"

	"turntable/api"
	"turntable/made"
)

// thing is an object as a test knows it: its letters, i a number, p a pointer, and what its slots hold.
type thing struct {
	letters string
	slots   []int64
}

// plain is what a pool should hold: a plain list.
type plain []thing

// shaped is the shape of letters, of none of them, too.
func shaped(letters string) api.Shape {
	x := api.Shape{Slots: len(letters)}
	for i, c := range letters {
		if c == 'p' {
			x.Mask += 1 << i
		}
	}
	return x
}

// lettered is the letters of a shape that may be.
func lettered(x api.Shape) string {
	letters := ""
	for i := range x.Slots {
		letters += string("ip"[x.Mask>>i&1])
	}
	return letters
}

// both is a pool and the list of what it should hold, of some objects.
func both(t *testing.T, letters ...string) (*Pool, *plain) {
	t.Helper()
	p, l := New(), &plain{}
	for _, s := range letters {
		makeBoth(t, p, l, s)
	}
	return p, l
}

// makeBoth makes an object in both.
func makeBoth(t *testing.T, p *Pool, l *plain, letters string) {
	t.Helper()
	*l = append(*l, thing{letters: letters, slots: make([]int64, len(letters))})
	if id := p.Make(shaped(letters)); id != len(*l) {
		t.Fatalf("object %d of %q is told as %d", len(*l), letters, id)
	}
}

// storeBoth stores into both, where the list has such a slot, and holds the trap.
func storeBoth(t *testing.T, p *Pool, l plain, id, slot int, pointer bool, n int64) {
	t.Helper()
	want := l.trap(id, slot, pointer)
	if want == 0 {
		l[id-1].slots[slot] = n
	}
	if trap := p.Store(id, slot, pointer, n); trap != want {
		t.Fatalf("Store(%d, %d, %v, %d) = %d, want %d", id, slot, pointer, n, trap, want)
	}
}

// there is the trap of an object and a slot, whatever it holds.
func (l plain) there(id, slot int) int {
	switch {
	case id == 0:
		return api.TrapNil
	case id < 0 || id > len(l) || slot < 0 || slot >= len(l[id-1].letters):
		return api.TrapSlot
	}
	return 0
}

// trap is the trap of an object and a slot of a kind.
func (l plain) trap(id, slot int, pointer bool) int {
	if trap := l.there(id, slot); trap != 0 {
		return trap
	}
	if pointer != (l[id-1].letters[slot] == 'p') {
		return api.TrapSlot
	}
	return 0
}

// words is how many words all objects take.
func (l plain) words() int {
	words := 0
	for _, o := range l {
		words += len(o.letters) + 1
	}
	return words
}

// outside is numbers that no list of that length has, at its ends and far off; those with bits far up are the first ones, if these are lost.
func outside(length int) []int {
	return []int{math.MinInt, math.MinInt + 1, -1 << 32, -length - 1, -length, -2, -1,
		length, length + 1, length + 2, 2*length + 16, 1 << 32, 1<<32 + 1, math.MaxInt - 1, math.MaxInt}
}

// mustSlot holds what is answered of one slot.
func mustSlot(t *testing.T, when string, p *Pool, l plain, id, slot int) {
	t.Helper()
	if got, want := p.Slot(id, slot), l.there(id, slot); got != want {
		t.Fatalf("%s: Slot(%d, %d) = %d, want %d", when, id, slot, got, want)
	}
	for _, pointer := range []bool{false, true} {
		want, trap := int64(0), l.trap(id, slot, pointer)
		if trap == 0 {
			want = l[id-1].slots[slot]
		}
		if n, got := p.Load(id, slot, pointer); n != want || got != trap {
			t.Fatalf("%s: Load(%d, %d, %v) = %d, %d, want %d, %d", when, id, slot, pointer, n, got, want, trap)
		}
	}
}

// mustHold holds all that a pool answers of its objects against a plain list.
func mustHold(t *testing.T, when string, p *Pool, l plain) {
	t.Helper()
	if p.Len() != len(l) || p.Words() != l.words() {
		t.Fatalf("%s: %d objects of %d words, want %d of %d", when, p.Len(), p.Words(), len(l), l.words())
	}
	for i, o := range l {
		if got := p.Shape(i + 1); got != shaped(o.letters) {
			t.Fatalf("%s: object %d is %v, want %q", when, i+1, got, o.letters)
		}
		for slot := -1; slot <= len(o.letters); slot++ {
			mustSlot(t, when, p, l, i+1, slot)
		}
	}
	for _, id := range append(outside(len(l)+1), 0) {
		if got := p.Shape(id); got != (api.Shape{}) {
			t.Fatalf("%s: there is no object %d, and it is %v", when, id, got)
		}
		mustSlot(t, when, p, l, id, 0)
	}
}

// reach is what is reached, as the chapter tells it, from the beginning on each time: the first one that was not met yet is met.
func (l plain) reach(from []int) []int {
	var met []int
	for {
		next := l.first(from, met)
		if next == 0 {
			return met
		}
		met = append(met, next)
	}
}

// first is the first object that was not met yet; 0: there is none.
func (l plain) first(from, met []int) int {
	todo := slices.Clone(from)
	for _, id := range met {
		for slot, n := range l[id-1].slots {
			if l[id-1].letters[slot] == 'p' && n >= 1 && n <= int64(len(l)) {
				todo = append(todo, int(n))
			}
		}
	}
	for _, id := range todo {
		if id >= 1 && id <= len(l) && !slices.Contains(met, id) {
			return id
		}
	}
	return 0
}

// mustReach holds what is reached.
func mustReach(t *testing.T, p *Pool, from []int, want ...int) {
	t.Helper()
	if got := p.Reach(from); !slices.Equal(got, want) {
		t.Fatalf("Reach(%v) = %v, want %v", from, got, want)
	}
}

// someLetters is letters by chance: none now and then, and as many as there may be.
func someLetters(m *made.Maker) string {
	slots := m.One([]int{0, 1, 1, 2, 2, 3, 4, 5, 9, 15, 16, 16})
	var letters strings.Builder
	for range slots {
		letters.WriteByte("ip"[m.Intn(2)])
	}
	return letters.String()
}

// someNumber is what a slot may hold: numbers of objects, and of none.
func someNumber(m *made.Maker, objects int) int64 {
	switch m.Intn(8) {
	case 0:
		far := []int64{math.MinInt64, math.MinInt64 + 1, -1 << 32, -1, 0, 1 << 31, 1 << 32, 1<<32 + 1, math.MaxInt64 - 1, math.MaxInt64}
		return far[m.Intn(len(far))]
	case 1:
		return int64(m.Intn(2*objects+9) - objects - 4)
	}
	return int64(1 + m.Intn(max(objects, 1)))
}
