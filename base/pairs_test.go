package base

import (
	"math"
	"slices"
	"testing"

	"turntable/api"
	"turntable/made"
)

// Promise 15.3: Find of values that are there, of those that are none, and of no pairs.
func TestFind(t *testing.T) {
	for _, c := range []struct {
		pairs string
		there map[int]int
		none  []int
	}{
		{"", nil, []int{0, 1, -1, 7}},
		{"3>1", map[int]int{3: 1}, []int{1, 2, 4, 0, -1, -3}},
		{"3>1 4>10 8>6", map[int]int{3: 1, 4: 10, 8: 6}, []int{0, 1, 2, 5, 6, 7, 9, 10, 11, -1, -4}},
		// The value 0 belongs to another one, and another one to it.
		{"0>9 5>0", map[int]int{0: 9, 5: 0}, []int{9, 1, 4, 6, -5}},
		// Several belong to one.
		{"2>1 3>1 5>4 6>4 9>1", map[int]int{2: 1, 3: 1, 5: 4, 6: 4, 9: 1}, []int{1, 4, 7, 8, 0, 10}},
		{"1048576>1048575", map[int]int{1048576: 1048575}, []int{1048575, 1048577, 0}},
	} {
		pairs := pairsOf(c.pairs)
		for der, want := range c.there {
			if got := Find(pairs, der); got != want {
				t.Errorf("%s: %d belongs to %d, want %d", c.pairs, der, got, want)
			}
		}
		for _, der := range append(c.none, math.MinInt, math.MaxInt, api.MaxValue+7) {
			if got := Find(pairs, der); got != -1 {
				t.Errorf("%s: %d belongs to %d, want -1", c.pairs, der, got)
			}
		}
	}
}

// Promise 15.3: Find of pairs that Of tells: of slots, of phis, and of values that are no pointers into objects.
func TestFindOfOf(t *testing.T) {
	f := read(t, made.IntoExample)
	_, pairs := Of(f)
	want := []int{-1, -1, -1, 1, 10, -1, -1, -1, 6, -1, -1, -1}
	for value, base := range want {
		if got := Find(pairs, value); got != base {
			t.Errorf("%d belongs to %d, want %d", value, got, base)
		}
	}
}

// Promise 15.3: as many pairs as there may be, and any fewer: each one is found, and nothing between them.
func TestFindEach(t *testing.T) {
	for count := range 70 {
		var pairs []api.Pair
		for i := range count {
			pairs = append(pairs, api.Pair{Der: 2*i + 1, Base: 1000 - i})
		}
		for i := range count + 1 {
			if got := Find(pairs, 2*i); got != -1 {
				t.Fatalf("of %d pairs %d belongs to %d", count, 2*i, got)
			}
			if got := Find(pairs, 2*i+1); i < count && got != 1000-i || i == count && got != -1 {
				t.Fatalf("of %d pairs %d belongs to %d", count, 2*i+1, got)
			}
		}
	}
}

// Promise 15.3: With of no values, of values of which none, one, several belong to others, which are there already, or are not.
func TestWith(t *testing.T) {
	pairs := "3>1 4>10 5>1 8>6 9>10"
	for _, c := range []struct {
		l     []int
		pairs string
		want  []int
	}{
		{nil, "", nil},
		{nil, pairs, nil},
		{[]int{}, pairs, nil},
		// Nothing belongs to anything: no pairs, and values that are none of them.
		{[]int{3, 4, 8}, "", []int{3, 4, 8}},
		{[]int{0}, pairs, []int{0}},
		{[]int{1, 2, 6, 7, 10, 11}, pairs, []int{1, 2, 6, 7, 10, 11}},
		// One that belongs to a lesser value, and to a greater one.
		{[]int{3}, pairs, []int{1, 3}},
		{[]int{4}, pairs, []int{4, 10}},
		{[]int{2, 8, 20}, pairs, []int{2, 6, 8, 20}},
		{[]int{0, 2, 4, 7, 20}, pairs, []int{0, 2, 4, 7, 10, 20}},
		// That is there already.
		{[]int{1, 3}, pairs, []int{1, 3}},
		{[]int{4, 10}, pairs, []int{4, 10}},
		{[]int{1, 3, 4, 6, 8, 10}, pairs, []int{1, 3, 4, 6, 8, 10}},
		// Two that belong to one, which is there, or is not.
		{[]int{3, 5}, pairs, []int{1, 3, 5}},
		{[]int{1, 3, 5}, pairs, []int{1, 3, 5}},
		{[]int{4, 9}, pairs, []int{4, 9, 10}},
		{[]int{4, 9, 10}, pairs, []int{4, 9, 10}},
		// All of them.
		{[]int{3, 4, 5, 8, 9}, pairs, []int{1, 3, 4, 5, 6, 8, 9, 10}},
		// The value 0.
		{[]int{0}, "0>7", []int{0, 7}},
		{[]int{7}, "7>0", []int{0, 7}},
		{[]int{1048576}, "1048576>0", []int{0, 1048576}},
	} {
		if got := With(c.l, pairsOf(c.pairs)); !slices.Equal(got, c.want) {
			t.Errorf("With of %v, of %s: %v, want %v", c.l, c.pairs, got, c.want)
		}
	}
}

// Promise 15.3: With of functions by chance, held against what is told value by value.
func TestWithByChance(t *testing.T) {
	more, less := 0, 0
	eachFunction(t, 2000, func(m *made.Maker, f api.Func) {
		_, pairs := Of(f)
		for range 5 {
			l, want := someValues(m, f)
			got := With(l, pairs)
			if !slices.Equal(got, want) {
				t.Fatalf("With of %v, of %s: %v, want %v", l, words(pairs), got, want)
			}
			if len(got) > len(l) {
				more++
			} else {
				less++
			}
		}
	})
	if more < 1000 || less < 1000 {
		t.Errorf("%d lists grew, %d did not", more, less)
	}
}

// someValues is some of a function's values, rising, and what With tells of them.
func someValues(m *made.Maker, f api.Func) ([]int, []int) {
	var l, all []int
	for _, value := range slices.Sorted(slices.Values(values(f))) {
		if m.Intn(3) > 0 {
			l = append(l, value)
		}
	}
	for _, value := range l {
		for _, one := range []int{value, belongs(f, value)} {
			if one != -1 && !slices.Contains(all, one) {
				all = append(all, one)
			}
		}
	}
	slices.Sort(all)
	return l, all
}
