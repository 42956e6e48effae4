package loops

import (
	"reflect"
	"slices"
	"testing"

	"turntable/api"
	"turntable/made"
)

// plainBacks is the blocks that go to a head, and are reached just by way of it, rising.
func plainBacks(f api.Func, head int) []int {
	reached, without := made.Search(f, 0, -1), made.Search(f, 0, head)
	var backs []int
	for b := range f.Blocks {
		if slices.Contains(made.To(f, b), head) && reached[b] && !without[b] {
			backs = append(backs, b)
		}
	}
	return backs
}

// plainBody is a head, and each block from on which, without the head, one of some is come to, rising.
func plainBody(f api.Func, head int, backs []int) []int {
	var body []int
	for b := range f.Blocks {
		met := made.Search(f, b, head)
		if b == head || slices.ContainsFunc(backs, func(back int) bool { return met[back] }) {
			body = append(body, b)
		}
	}
	return body
}

// plain is a function's loops, by a search from each block for each head, and Up by the words of the chapter: more blocks, then the fewest, then the first.
func plain(f api.Func) []api.Loop {
	var loops []api.Loop
	for head := range f.Blocks {
		if backs := plainBacks(f, head); len(backs) > 0 {
			loops = append(loops, api.Loop{Head: head, Backs: backs, Blocks: plainBody(f, head, backs), Up: -1})
		}
	}
	for i, l := range loops {
		for count := len(f.Blocks); count > len(l.Blocks); count-- {
			for j := len(loops) - 1; j >= 0; j-- {
				if len(loops[j].Blocks) == count && slices.Contains(loops[j].Blocks, l.Head) {
					loops[i].Up = j
				}
			}
		}
	}
	return loops
}

// plainEntry is the one block outside of a loop that goes to its head, if there is one, and that goes nowhere else.
func plainEntry(f api.Func, l api.Loop) int {
	entry, count := -1, 0
	for b := range f.Blocks {
		if slices.Contains(made.To(f, b), l.Head) && !slices.Contains(l.Blocks, b) {
			entry = b
			count++
		}
	}
	if count != 1 || slices.ContainsFunc(made.To(f, entry), func(next int) bool { return next != l.Head }) {
		return -1
	}
	return entry
}

// plainInner is the numbers of loops, by how many blocks they have, each count on its own.
func plainInner(l []api.Loop, blocks int) []int {
	var inner []int
	for count := 0; count <= blocks; count++ {
		for i, loop := range l {
			if len(loop.Blocks) == count {
				inner = append(inner, i)
			}
		}
	}
	return inner
}

// plainDepth is how many loops have a block among theirs.
func plainDepth(l []api.Loop, k int) int {
	depth := 0
	for _, loop := range l {
		for _, b := range loop.Blocks {
			if b == k {
				depth++
			}
		}
	}
	return depth
}

// hold holds all that is answered of a function against the plain search.
func hold(t *testing.T, f api.Func) {
	t.Helper()
	want, l := plain(f), Of(f)
	if len(l)+len(want) > 0 && !reflect.DeepEqual(l, want) {
		t.Fatalf("of %v: the loops are %v, want %v", made.Edges(f), l, want)
	}
	for i, loop := range l {
		if got, want := Entry(f, loop), plainEntry(f, loop); got != want {
			t.Fatalf("of %v: Entry of loop %d is %d, want %d", made.Edges(f), i, got, want)
		}
	}
	for k := -1; k <= len(f.Blocks); k++ {
		if got, want := Depth(l, k), plainDepth(want, k); got != want {
			t.Fatalf("of %v: Depth of %d is %d, want %d", made.Edges(f), k, got, want)
		}
	}
	if got, want := Inner(l), plainInner(want, len(f.Blocks)); !slices.Equal(got, want) {
		t.Fatalf("of %v: Inner is %v, want %v", made.Edges(f), got, want)
	}
}

// Promises 10.1 to 10.5: all functions of up to four blocks, and greater ones by chance, held against the plain search.
func TestMade(t *testing.T) {
	loops, within, entered, spread := 0, 0, 0, 0
	eachFlow(t, func(f api.Func) {
		hold(t, f)
		for _, l := range Of(f) {
			loops++
			if l.Up >= 0 {
				within++
			}
			if Entry(f, l) >= 0 {
				entered++
			}
			if len(l.Backs) > 1 {
				spread++
			}
		}
	})
	if loops < 10000 || within < 5000 || entered < 5000 || spread < 3000 {
		t.Errorf("%d loops were met, %d of them within others, %d with an entry, %d with several backs", loops, within, entered, spread)
	}
}

// Promises 10.1 to 10.5: as many blocks as there may be, by chance, and by rules: rounds of many ways in, rounds within rounds and side by side.
func TestMadeGreat(t *testing.T) {
	const blocks = api.MaxBlocks
	m := made.New(3)
	for range 8 {
		hold(t, some(m, blocks))
	}
	last := blocks - 1
	rules := []func(k int) []int{
		func(k int) []int { return []int{min(k+1, last), max(k-1, 0)} },
		func(k int) []int { return []int{min(k+1, last), last - k} },
		func(k int) []int { return []int{min(k+1, last), k} },
		func(k int) []int { return []int{min(k+1, last), 0} },
		func(k int) []int { return []int{(2*k + 1) % blocks, (2*k + 2) % blocks} },
		func(k int) []int { return []int{min(2*k+1, last), (k - 1) / 2} },
		func(k int) []int { return [][]int{{1, last}, {min(k+1, last), k - 1}}[min(k, 1)] },
		func(k int) []int { return []int{min(k+1, last), k - k%7, k - k%49} },
	}
	for _, rule := range rules {
		f := made.Long(blocks, rule)
		hold(t, f)
		hold(t, m.Function(m.Mixed(made.Edges(f))))
	}
}

// Promise 10.6: each edge into a loop from without, of a block that is reached, or not, goes to its head.
func TestByTheHeadAlone(t *testing.T) {
	met := 0
	eachFlow(t, func(f api.Func) {
		reached := made.Search(f, 0, -1)
		for _, l := range Of(f) {
			for from := range f.Blocks {
				for _, next := range made.To(f, from) {
					if slices.Contains(l.Blocks, from) || !slices.Contains(l.Blocks, next) {
						continue
					}
					if next != l.Head {
						t.Fatalf("of %v: %d goes to %d, which is within %v, not its head (%d is reached: %v)", made.Edges(f), from, next, l, from, reached[from])
					}
					met++
				}
			}
		}
	})
	if met < 10000 {
		t.Errorf("%d edges into loops were met", met)
	}
}

// Promise 10.6: ways by chance, from block 0 on, also such as go round: ahead of each block of a loop its head was met, since the loop was come into.
func TestWaysIn(t *testing.T) {
	m := made.New(4)
	eachFlow(t, func(f api.Func) {
		for _, l := range Of(f) {
			inside, at := false, 0
			for range 3 * len(f.Blocks) {
				holds := slices.Contains(l.Blocks, at)
				if holds && !inside && at != l.Head {
					t.Fatalf("of %v: into %v one comes at %d", made.Edges(f), l, at)
				}
				inside = holds
				next := made.To(f, at)
				if len(next) == 0 {
					break
				}
				at = next[m.Intn(len(next))]
			}
		}
	})
}

// ups is the loops to which one comes from a loop by Up, but no more than there are.
func ups(l []api.Loop, i int) []int {
	var list []int
	for up := l[i].Up; up >= 0 && len(list) < len(l); up = l[up].Up {
		list = append(list, up)
	}
	return list
}

// Promise 10.6: of two loops that share a block that is reached the one's head is within the other one, and all of its blocks are, and it is the greater one's number that one comes to by Up.
func TestSharedBlocks(t *testing.T) {
	pairs := 0
	eachFlow(t, func(f api.Func) {
		reached := made.Search(f, 0, -1)
		l := Of(f)
		for i, a := range l {
			for j, b := range l {
				shared := slices.ContainsFunc(a.Blocks, func(k int) bool { return reached[k] && slices.Contains(b.Blocks, k) })
				if i == j || len(a.Blocks) > len(b.Blocks) || !shared {
					continue
				}
				pairs++
				if !slices.Contains(b.Blocks, a.Head) || slices.Contains(a.Blocks, b.Head) {
					t.Fatalf("of %v: %v and %v share blocks, and of their heads not just that of the first one is within the other", made.Edges(f), a, b)
				}
				if slices.ContainsFunc(a.Blocks, func(k int) bool { return !slices.Contains(b.Blocks, k) }) {
					t.Fatalf("of %v: %v is not all within %v", made.Edges(f), a, b)
				}
				if !slices.Contains(ups(l, i), j) {
					t.Fatalf("of %v: from loop %d one does not come to %d by Up: %v", made.Edges(f), i, j, l)
				}
			}
		}
	})
	if pairs < 5000 {
		t.Errorf("%d pairs of loops that share blocks were met", pairs)
	}
}

// Promises 10.2, 10.3 and 10.5: what the calls say of one another: of a head one comes by Up through as many loops as Depth says, and each is told by Inner ahead of the one that is Up of it.
func TestUpDepthInner(t *testing.T) {
	eachFlow(t, func(f api.Func) {
		l := Of(f)
		inner := Inner(l)
		for i, loop := range l {
			for _, up := range ups(l, i) {
				if slices.Index(inner, i) >= slices.Index(inner, up) {
					t.Fatalf("of %v: Inner is %v, and %d is within %d", made.Edges(f), inner, i, up)
				}
			}
			if got, want := Depth(l, loop.Head), 1+len(ups(l, i)); got != want {
				t.Fatalf("of %v: Depth of %d is %d, and by Up it is in %d", made.Edges(f), loop.Head, got, want)
			}
		}
	})
}
