package dom

import (
	"slices"
	"testing"

	"turntable/api"
	"turntable/made"
)

// plain is who stands ahead of whom, by leaving out one block after the other; first the one that is ahead.
func plain(f api.Func) [][]bool {
	reached := made.Search(f, 0, -1)
	ahead := make([][]bool, len(f.Blocks))
	for a := range ahead {
		ahead[a] = make([]bool, len(f.Blocks))
		without := made.Search(f, 0, a)
		for b := range f.Blocks {
			ahead[a][b] = reached[a] && reached[b] && !without[b]
		}
	}
	return ahead
}

// plainUp is, of those that stand ahead of a block, but it, the one ahead of which all others stand.
func plainUp(ahead [][]bool, k int) int {
	found := -1
	for a := range ahead {
		fits := a != k && ahead[a][k]
		for c := range ahead {
			if fits && c != k && ahead[c][k] && !ahead[c][a] {
				fits = false
			}
		}
		if fits {
			found = a
		}
	}
	return found
}

// plainDown is a block, and then all that is below it, by the kids of each one.
func plainDown(kids [][]int, k int) []int {
	down := []int{k}
	for _, kid := range kids[k] {
		down = append(down, plainDown(kids, kid)...)
	}
	return down
}

// hold holds all that a function's tree answers against the plain search.
func hold(t *testing.T, f api.Func) {
	t.Helper()
	d, ahead := Of(f), plain(f)
	kids := make([][]int, len(f.Blocks))
	for k := range f.Blocks {
		up := plainUp(ahead, k)
		if got := d.Up(k); got != up {
			t.Fatalf("of %v: Up(%d) is %d, want %d", f.Blocks, k, got, up)
		}
		if up >= 0 {
			kids[up] = append(kids[up], k)
		}
		depth := 0
		for a := range f.Blocks {
			if got := d.Ahead(a, k); got != ahead[a][k] {
				t.Fatalf("of %v: Ahead(%d, %d) is %v", f.Blocks, a, k, got)
			}
			if a != k && ahead[a][k] {
				depth++
			}
		}
		if got := d.Depth(k); got != depth {
			t.Fatalf("of %v: Depth(%d) is %d, want %d", f.Blocks, k, got, depth)
		}
	}
	for k := range f.Blocks {
		if got := d.Kids(k); !slices.Equal(got, kids[k]) {
			t.Fatalf("of %v: Kids(%d) is %v, want %v", f.Blocks, k, got, kids[k])
		}
	}
	if got, want := d.Down(), plainDown(kids, 0); !slices.Equal(got, want) {
		t.Fatalf("of %v: Down is %v, want %v", f.Blocks, got, want)
	}
}

// Promises 9.1 to 9.4: all functions of up to four blocks, and greater ones by chance, held against the plain search.
func TestMade(t *testing.T) {
	eachFlow(t, func(f api.Func) { hold(t, f) })
}

// Promises 9.1 to 9.4: as many blocks as there may be, by chance, and by rules: rounds of many ways in, rounds within rounds, ways that meet, trees.
func TestMadeGreat(t *testing.T) {
	const blocks = api.MaxBlocks
	m := made.New(3)
	for range 3 {
		hold(t, m.Function(m.Edges(blocks)))
		hold(t, m.Function(m.Near(blocks)))
		hold(t, m.Function(m.Mixed(m.Near(blocks))))
	}
	last := blocks - 1
	rules := []func(k int) []int{
		func(k int) []int { return []int{min(k+1, last), max(k-1, 0)} },
		func(k int) []int { return []int{min(k+1, last), last - k} },
		func(k int) []int { return []int{min(k+1, last), last} },
		func(k int) []int { return []int{last, min(k+1, last)} },
		func(k int) []int { return []int{(2*k + 1) % blocks, (2*k + 2) % blocks} },
		func(k int) []int { return []int{min(2*k+1, last), min(2*k+2, last)} },
		func(k int) []int { return []int{min(k+1, last), min(k+3, last)} },
		// That the last block is gone to from the first one puts the others under that, too, one more each round.
		func(k int) []int { return [][]int{{1, last}, {min(k+1, last), k - 1}}[min(k, 1)] },
		func(k int) []int { return []int{min(k+1, last), k - k%7, k - k%49} },
	}
	for _, rule := range rules {
		f := made.Long(blocks, rule)
		hold(t, f)
		hold(t, m.Function(m.Mixed(made.Edges(f))))
	}
}

// Promise 9.2: of two unlike blocks not each stands ahead of the other, and who stands ahead of one that stands ahead of a third stands ahead of that.
func TestAheadAsAnOrder(t *testing.T) {
	pairs, triples := 0, 0
	eachFlow(t, func(f api.Func) {
		d, n := Of(f), len(f.Blocks)
		if n > 12 {
			return
		}
		for a := range n {
			for b := range n {
				if !d.Ahead(a, b) {
					continue
				}
				if a != b {
					pairs++
				}
				if a != b && d.Ahead(b, a) {
					t.Fatalf("of %v: %d and %d stand each ahead of the other", f.Blocks, a, b)
				}
				for c := range n {
					if d.Ahead(b, c) && !d.Ahead(a, c) {
						t.Fatalf("of %v: %d is ahead of %d, that of %d, but not the first of the last", f.Blocks, a, b, c)
					}
					if d.Ahead(b, c) && a != b && b != c {
						triples++
					}
				}
			}
		}
	})
	if pairs < 10000 || triples < 10000 {
		t.Errorf("%d pairs and %d triples were met", pairs, triples)
	}
}

// Promises 9.2 and 9.3: what the calls say of one another: going Up as often as Depth says ends at block 0, and by way of just those that stand ahead.
func TestUpAndDepth(t *testing.T) {
	eachFlow(t, func(f api.Func) {
		d := Of(f)
		for k := range f.Blocks {
			var way []int
			for a := d.Up(k); a != -1; a = d.Up(a) {
				way = append(way, a)
			}
			if len(way) != d.Depth(k) || len(way) > 0 && way[len(way)-1] != 0 {
				t.Fatalf("of %v: from %d up is %v, and the depth is %d", f.Blocks, k, way, d.Depth(k))
			}
			for a := range f.Blocks {
				if a != k && d.Ahead(a, k) != slices.Contains(way, a) {
					t.Fatalf("of %v: from %d up is %v, and Ahead(%d, %d) is %v", f.Blocks, k, way, a, k, d.Ahead(a, k))
				}
			}
		}
	})
}

// Promise 9.4: Down tells each block that is reached once, behind all that stand ahead of it, and what is below one in one piece.
func TestDownInOnePiece(t *testing.T) {
	eachFlow(t, func(f api.Func) {
		d := Of(f)
		down, reached := d.Down(), made.Search(f, 0, -1)
		for k, is := range reached {
			if at := slices.Index(down, k); is != (at >= 0) || at >= 0 && slices.Contains(down[at+1:], k) {
				t.Fatalf("of %v: Down is %v", f.Blocks, down)
			}
		}
		for at, k := range down {
			end := at
			for end < len(down) && d.Ahead(k, down[end]) {
				end++
			}
			for i, b := range down {
				if d.Ahead(k, b) != (i >= at && i < end) {
					t.Fatalf("of %v: Down is %v, and what is below %d is not in one piece", f.Blocks, down, k)
				}
			}
		}
	})
}

// Promise 9.5: ways by chance, also such as go round: at each block all have been met that stand ahead of it.
func TestOnEveryWay(t *testing.T) {
	m := made.New(4)
	eachFlow(t, func(f api.Func) {
		d := Of(f)
		for range 3 {
			met := make([]bool, len(f.Blocks))
			at := 0
			for range 2 * len(f.Blocks) {
				met[at] = true
				for a := range f.Blocks {
					if d.Ahead(a, at) && !met[a] {
						t.Fatalf("of %v: %d stands ahead of %d, and there is a way without it", f.Blocks, a, at)
					}
				}
				next := made.To(f, at)
				if len(next) == 0 {
					break
				}
				at = next[m.Intn(len(next))]
			}
		}
	})
}

// eachWay hands over all ways from block 0 on that meet no block twice.
func eachWay(f api.Func, way []int, do func(way []int)) {
	do(way)
	for _, next := range made.To(f, way[len(way)-1]) {
		if !slices.Contains(way, next) {
			eachWay(f, append(way[:len(way):len(way)], next), do)
		}
	}
}

// Promises 9.1 and 9.5: just those stand ahead of a block that are on all ways to it, by going all ways that there are.
func TestJustOnEveryWay(t *testing.T) {
	eachFlow(t, func(f api.Func) {
		if len(f.Blocks) > 6 {
			return
		}
		d := Of(f)
		ways := make([]int, len(f.Blocks))
		by := make([][]int, len(f.Blocks))
		for k := range by {
			by[k] = make([]int, len(f.Blocks))
		}
		eachWay(f, []int{0}, func(way []int) {
			last := way[len(way)-1]
			ways[last]++
			for _, a := range way {
				by[last][a]++
			}
		})
		for b := range f.Blocks {
			for a := range f.Blocks {
				want := ways[a] > 0 && ways[b] > 0 && by[b][a] == ways[b]
				if d.Ahead(a, b) != want {
					t.Fatalf("of %v: Ahead(%d, %d) is %v; of %d ways %d go by it", f.Blocks, a, b, d.Ahead(a, b), ways[b], by[b][a])
				}
			}
		}
	})
}
