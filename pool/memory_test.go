package pool

import (
	"slices"
	"testing"

	"turntable/api"
	"turntable/made"
)

// act does one thing by chance to a pool and to the list of what it should hold, and holds what is answered.
func act(t *testing.T, m *made.Maker, p *Pool, l *plain) {
	t.Helper()
	id, slot, pointer := m.Intn(len(*l)+4)-1, m.Intn(20)-2, m.Intn(2) == 0
	// Mostly a slot that is there, as what it is: else next to all would trap.
	if id >= 1 && id <= len(*l) && len((*l)[id-1].letters) > 0 && m.Intn(4) > 0 {
		slot = m.Intn(len((*l)[id-1].letters))
		pointer = (*l)[id-1].letters[slot] == 'p'
	}
	switch m.Intn(40) {
	case 0:
		p.Wipe()
		*l = nil
	case 1, 2, 3, 4, 5, 6:
		makeBoth(t, p, l, someLetters(m))
	case 7, 8:
		from := []int{id, m.Intn(len(*l) + 2), slot}
		mustReach(t, p, from, l.reach(from)...)
	case 9, 10, 11, 12, 13, 14, 15, 16:
		mustSlot(t, "asked by chance", p, *l, id, slot)
	default:
		storeBoth(t, p, *l, id, slot, pointer, someNumber(m, len(*l)))
	}
}

// Promise 12.6: acts by chance: a slot holds what was stored there last, and no other one is changed.
func TestActs(t *testing.T) {
	for seed := range 60 {
		m := made.New(100 + seed)
		p, l := both(t)
		for range 400 {
			act(t, m, p, l)
			mustHold(t, "by chance", p, *l)
		}
	}
}

// Promise 12.6: what was stored into one of many slots is loaded behind many others, in any order.
func TestStoredLast(t *testing.T) {
	m := made.New(13)
	p, l := both(t)
	for range 300 {
		makeBoth(t, p, l, someLetters(m))
	}
	for range 50000 {
		id := 1 + m.Intn(len(*l))
		if letters := (*l)[id-1].letters; letters != "" {
			slot := m.Intn(len(letters))
			storeBoth(t, p, *l, id, slot, letters[slot] == 'p', someNumber(m, len(*l)))
		}
	}
	mustHold(t, "stored many times", p, *l)
	// Objects that are made later stand elsewhere, and change nothing of those that were there.
	for range 300 {
		makeBoth(t, p, l, someLetters(m))
	}
	mustHold(t, "made more", p, *l)
}

// P6: pools do not know of each other: each answers by the acts on it alone.
func TestPoolsApart(t *testing.T) {
	m := made.New(14)
	for range 30 {
		p, l := both(t)
		q, k := both(t, "ip", "p")
		for range 200 {
			act(t, m, p, l)
			act(t, m, q, k)
			mustHold(t, "the first one", p, *l)
			mustHold(t, "the second one", q, *k)
		}
		p.Wipe()
		mustHold(t, "the first one, wiped", p, nil)
		mustHold(t, "beside the one wiped", q, *k)
	}
}

// P6: the same acts, the same answers.
func TestSameAgain(t *testing.T) {
	m, n := made.New(15), made.New(15)
	p, l := both(t)
	q, k := both(t)
	for range 500 {
		act(t, m, p, l)
		act(t, n, q, k)
		if from := []int{1, 2, 3}; !slices.Equal(p.Reach(from), q.Reach(from)) || p.Words() != q.Words() {
			t.Fatal("the same acts answer otherwise")
		}
	}
}

// R3: what Reach is given is neither changed nor kept, and what lies behind its length is neither read nor written.
func TestFromNotChanged(t *testing.T) {
	p := linked(t, []int64{2}, []int64{3}, nil, []int64{1}, nil)
	from := made.Behind([]int{4, 0, 4, 2}, 5, 5, 5, 5, 5, 5)
	before := slices.Clone(from[:cap(from)])
	want := []int{4, 2, 1, 3}
	got := p.Reach(from)
	if !slices.Equal(got, want) || !slices.Equal(from[:cap(from)], before) {
		t.Fatalf("Reach(%v) = %v, and it was %v", from, got, before)
	}
	made.Fill(from, 5)
	if !slices.Equal(got, want) {
		t.Fatalf("what was answered was changed: %v", got)
	}
	mustReach(t, p, []int{4, 0, 4, 2}, want...)
	made.Fill(got, 77)
	if !slices.Equal(from, []int{5, 5, 5, 5}) {
		t.Fatalf("what is answered is a piece of what was given: %v", from)
	}
}

// R3: who writes into what Reach answered changes no other answer, and nothing in the pool.
func TestAnswersApart(t *testing.T) {
	m := made.New(16)
	p, l := both(t)
	for range 40 {
		makeBoth(t, p, l, someLetters(m))
	}
	for range 2000 {
		act(t, m, p, l)
		from := []int{1 + m.Intn(40), 1 + m.Intn(40)}
		want := l.reach(from)
		first, second := p.Reach(from), p.Reach(from)
		_ = append(first, 99, 98, 97)
		made.Fill(first, 77)
		if !slices.Equal(second, want) {
			t.Fatalf("Reach(%v) was %v, and is %v", from, want, second)
		}
		mustReach(t, p, from, want...)
	}
	mustHold(t, "written into answers", p, *l)
}

// R3: what Reach answered stays as it is, whatever is done to the pool then; Shape's answer is the caller's, too.
func TestAnswersStay(t *testing.T) {
	p := linked(t, []int64{2, 3}, nil, []int64{1})
	got, x := p.Reach([]int{1}), p.Shape(1)
	p.Store(1, 0, true, 0)
	mustReach(t, p, []int{1}, 1, 3)
	p.Wipe()
	p.Make(shaped("i"))
	mustReach(t, p, []int{1}, 1)
	if !slices.Equal(got, []int{1, 2, 3}) || x != (api.Shape{Slots: 2, Mask: 3}) {
		t.Fatalf("what was answered was changed: %v, %v", got, x)
	}
	x = p.Shape(1)
	x.Slots, x.Mask = 5, 31
	if got := p.Shape(1); got != shaped("i") {
		t.Fatalf("the object is %v", got)
	}
}
