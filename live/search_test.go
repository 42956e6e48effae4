package live

import (
	"slices"
	"testing"

	"turntable/api"
	"turntable/made"
	"turntable/show"
	"turntable/well"
)

// makes tells whether an instruction makes a value.
func makes(x api.Instr, value int) bool { return x.Id == value && value >= 0 }

// joins tells whether a phi of a block takes a value from another one.
func joins(f api.Func, from, to, value int) bool {
	for _, x := range f.Blocks[to] {
		for i := range x.Args {
			if x.Op == api.OPhi && x.To[i] == from && x.Args[i] == value {
				return true
			}
		}
	}
	return false
}

// search looks for a way on which a value is taken, from a place on: it goes all ways, each block once from its beginning.
type search struct {
	f     api.Func
	value int
	met   []bool
}

// live tells whether a value is taken on a way from behind so many of a block's instructions on, ahead of being made.
func live(f api.Func, value, block, place int) bool {
	s := search{f: f, value: value, met: make([]bool, len(f.Blocks))}
	return s.along(block, place)
}

// along goes on from behind so many of a block's instructions; of phis that place is behind all of them.
func (s *search) along(k, place int) bool {
	block := s.f.Blocks[k]
	for _, x := range block[place:] {
		if x.Op == api.OPhi && place > 0 {
			continue
		}
		if x.Op != api.OPhi && slices.Contains(x.Args, s.value) {
			return true
		}
		if makes(x, s.value) {
			return false
		}
	}
	for _, to := range made.To(s.f, k) {
		if joins(s.f, k, to, s.value) || s.enter(to) {
			return true
		}
	}
	return false
}

// enter goes on at the beginning of a block, if that was not met yet.
func (s *search) enter(k int) bool {
	if s.met[k] {
		return false
	}
	s.met[k] = true
	return s.along(k, 0)
}

// values is the values of a function, rising: the parameters, and what instructions make.
func values(f api.Func) []int {
	var list []int
	for value := range f.Params {
		list = append(list, value)
	}
	for _, block := range f.Blocks {
		for _, x := range block {
			if x.Id >= 0 {
				list = append(list, x.Id)
			}
		}
	}
	slices.Sort(list)
	return list
}

// told is what is live behind so many of a block's instructions, by the search.
func told(f api.Func, block, place int) []int {
	var list []int
	for _, value := range values(f) {
		if live(f, value, block, place) {
			list = append(list, value)
		}
	}
	return list
}

// mustList holds one answer against what is told.
func mustList(t *testing.T, f api.Func, call string, k, i int, got, want []int) {
	t.Helper()
	if !slices.Equal(got, want) {
		t.Fatalf("%s of block %d (instruction %d) is %v, want %v, of\n%s", call, k, i, got, want, show.Func(f))
	}
}

// hold holds all that is answered of a function against the search.
func hold(t *testing.T, f api.Func) {
	t.Helper()
	v := Of(f)
	most := 0
	for k, block := range f.Blocks {
		in := told(f, k, 0)
		mustList(t, f, "In", k, -1, v.In(k), in)
		most = max(most, len(in))
		for i := range block {
			after := told(f, k, i+1)
			mustList(t, f, "After", k, i, v.After(k, i), after)
			most = max(most, len(after))
		}
		mustList(t, f, "Out", k, -1, v.Out(k), told(f, k, len(block)))
	}
	if got := v.Most(); got != most {
		t.Fatalf("Most is %d, want %d, of\n%s", got, most, show.Func(f))
	}
}

// Promises 14.1 to 14.3: functions by chance, held against the search.
func TestByChance(t *testing.T) {
	functions, phis, rounds, greatest := 0, 0, 0, 0
	eachFunction(t, 6000, func(_ *made.Maker, f api.Func) {
		hold(t, f)
		functions++
		for k, block := range f.Blocks {
			if block[0].Op == api.OPhi {
				phis++
			}
			if made.Search(f, k, 0)[k] && slices.ContainsFunc(made.To(f, k), func(to int) bool { return made.Search(f, to, -1)[k] }) {
				rounds++
			}
		}
		greatest = max(greatest, Of(f).Most())
	})
	// What is never met would not be held.
	if functions < 10000 || phis < 5000 || rounds < 5000 || greatest < 8 {
		t.Errorf("%d functions, %d blocks with phis, %d blocks that are gone round, at most %d values live at once", functions, phis, rounds, greatest)
	}
}

// Promises 14.1 to 14.3: great functions by chance, asked at many places for many values.
func TestGreatByChance(t *testing.T) {
	for seed := range 12 {
		m := made.New(9000 + seed)
		p := m.Program(2, api.MaxBlocks, seed%2 == 0)
		if e := well.Made(p); e != (api.Err{}) {
			t.Fatalf("seed %d: %v", seed, e)
		}
		for _, f := range p.Funcs {
			v, all := Of(f), values(f)
			for range 3000 {
				if len(all) == 0 {
					break
				}
				k, value := m.Intn(len(f.Blocks)), m.One(all)
				i := m.Intn(len(f.Blocks[k]))
				mustLive(t, f, "In", k, -1, v.In(k), value, live(f, value, k, 0))
				mustLive(t, f, "After", k, i, v.After(k, i), value, live(f, value, k, i+1))
				mustLive(t, f, "Out", k, -1, v.Out(k), value, live(f, value, k, len(f.Blocks[k])))
			}
			if got, want := v.Most(), greatest(v, f); got != want {
				t.Fatalf("seed %d: Most is %d, want %d", seed, got, want)
			}
		}
	}
}

// mustLive holds whether one value is told as live.
func mustLive(t *testing.T, f api.Func, call string, k, i int, got []int, value int, want bool) {
	t.Helper()
	if slices.Contains(got, value) != want {
		t.Fatalf("%s of block %d (instruction %d) is %v; that %d is live there is %v, of\n%s", call, k, i, got, value, want, show.Func(f))
	}
}

// greatest is how many values are told at most by any In and After.
func greatest(v *Live, f api.Func) int {
	most := 0
	for k, block := range f.Blocks {
		most = max(most, len(v.In(k)))
		for i := range block {
			most = max(most, len(v.After(k, i)))
		}
	}
	return most
}

// stop is a place on a way: which call tells what is live there, what it tells, and what was taken, and then made, on the way since the stop ahead of it.
type stop struct {
	call  string
	block int
	i     int
	told  []int
	takes []int
	makes []int
}

// given is what the phis of a block take from another one.
func given(f api.Func, from, to int) []int {
	var list []int
	for _, x := range f.Blocks[to] {
		if x.Op == api.OPhi {
			list = append(list, x.Args[slices.Index(x.To, from)])
		}
	}
	return list
}

// through is the stops within a block: one behind each instruction; all phis make their values ahead of the first one.
func through(f api.Func, v *Live, k int) []stop {
	var stops []stop
	for i, x := range f.Blocks[k] {
		s := stop{call: "After", block: k, i: i, told: v.After(k, i)}
		if x.Op != api.OPhi {
			s.takes, s.makes = x.Args, []int{x.Id}
		}
		stops = append(stops, s)
	}
	for _, x := range f.Blocks[k] {
		if x.Op == api.OPhi {
			stops[0].makes = append(stops[0].makes, x.Id)
		}
	}
	return stops
}

// walk is the stops of a way by chance from block 0 on, through at most so many blocks.
func walk(m *made.Maker, f api.Func, v *Live, blocks int) []stop {
	way := []stop{{call: "In", told: v.In(0)}}
	for range blocks {
		k := way[len(way)-1].block
		way = append(way, through(f, v, k)...)
		way = append(way, stop{call: "Out", block: k, told: v.Out(k)})
		next := made.To(f, k)
		if len(next) == 0 {
			break
		}
		to := m.One(next)
		way = append(way, stop{call: "In", block: to, told: v.In(to), takes: given(f, k, to)})
	}
	return way
}

// Promise 14.4: ways by chance: what is taken later on one is live on it, from where it is made on; and (11.8) nothing is live that was not made on it.
func TestTakenLater(t *testing.T) {
	taken := 0
	eachFunction(t, 3000, func(m *made.Maker, f api.Func) {
		v := Of(f)
		for range 3 {
			way := walk(m, f, v, 3*len(f.Blocks))
			taken += mustTellLater(t, f, way)
			mustBeMade(t, f, way)
		}
	})
	if taken < 100000 {
		t.Errorf("only %d times a value was to be live", taken)
	}
}

// mustTellLater goes along a way from its end back, and holds that all is told that is taken behind; how often that was asked is answered.
func mustTellLater(t *testing.T, f api.Func, way []stop) int {
	t.Helper()
	asked := 0
	later := map[int]int{}
	for _, s := range slices.Backward(way) {
		for value := range later {
			asked++
			mustLive(t, f, s.call, s.block, s.i, s.told, value, true)
		}
		for _, value := range s.makes {
			delete(later, value)
		}
		for _, value := range s.takes {
			later[value]++
		}
	}
	return asked
}

// mustBeMade goes along a way, and holds that nothing is told that was not made on it.
func mustBeMade(t *testing.T, f api.Func, way []stop) {
	t.Helper()
	there := map[int]int{}
	for value := range f.Params {
		there[value]++
	}
	for _, s := range way {
		for _, value := range s.makes {
			there[value]++
		}
		for _, value := range s.told {
			if there[value] == 0 {
				mustLive(t, f, s.call, s.block, s.i, s.told, value, false)
			}
		}
	}
}

// Promise 14.2: the lists are rising, and hold none twice; behind all phis of a block, and behind its last instruction and at its end, they are alike; ahead of the first block parameters alone are live, and behind ret and fail nothing is.
func TestRows(t *testing.T) {
	alike, ends := 0, 0
	eachFunction(t, 3000, func(_ *made.Maker, f api.Func) {
		v := Of(f)
		for k, block := range f.Blocks {
			last := len(block) - 1
			mustRise(t, v.In(k))
			mustRise(t, v.Out(k))
			if !slices.Equal(v.Out(k), v.After(k, last)) {
				t.Fatalf("of block %d Out is %v, and behind the last instruction %v", k, v.Out(k), v.After(k, last))
			}
			if op := block[last].Op; op == api.ORet || op == api.OFail {
				ends++
				mustList(t, f, "Out", k, -1, v.Out(k), nil)
			}
			for i, x := range block {
				mustRise(t, v.After(k, i))
				if x.Op == api.OPhi && i > 0 {
					alike++
					mustList(t, f, "After", k, i, v.After(k, i), v.After(k, 0))
				}
			}
		}
		for _, value := range v.In(0) {
			if value >= len(f.Params) {
				t.Fatalf("ahead of the first block %v are live, of %d parameters", v.In(0), len(f.Params))
			}
		}
	})
	if alike < 1000 || ends < 2000 {
		t.Errorf("%d phis behind others and %d ends were met", alike, ends)
	}
}

// mustRise holds that a list is rising, and holds none twice.
func mustRise(t *testing.T, l []int) {
	t.Helper()
	for i := 1; i < len(l); i++ {
		if l[i-1] >= l[i] {
			t.Fatalf("%v is not rising", l)
		}
	}
}
