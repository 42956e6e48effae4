package live

import "math/bits"

// set is which of some things are in it: of each one a bit, by its number.
type set []uint64

// empty is a set of so many things, with none of them in it.
func empty(things int) set { return make(set, (things+63)/64) }

// add puts a thing into the set.
func (s set) add(n int) { s[n/64] |= 1 << (n % 64) }

// drop takes a thing out of the set.
func (s set) drop(n int) { s[n/64] &^= 1 << (n % 64) }

// join puts all that is in another set of as many things into this one.
func (s set) join(other set) {
	for i, word := range other {
		s[i] |= word
	}
}

// count is how many things are in the set.
func (s set) count() int {
	count := 0
	for _, word := range s {
		count += bits.OnesCount64(word)
	}
	return count
}

// of is those of the things that are in the set, in their order.
func (s set) of(things []int) []int {
	list := make([]int, 0, s.count())
	for i, word := range s {
		for ; word != 0; word &= word - 1 {
			list = append(list, things[64*i+bits.TrailingZeros64(word)])
		}
	}
	return list
}
