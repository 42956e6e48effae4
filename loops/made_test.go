package loops

import (
	"testing"

	"turntable/api"
	"turntable/graph"
	"turntable/made"
)

// some is a function of so many blocks by chance, of one of all kinds.
func some(m *made.Maker, blocks int) api.Func {
	switch m.Intn(5) {
	case 0:
		return m.Function(m.Edges(blocks))
	case 1:
		return m.Function(m.Mixed(m.Near(blocks)))
	case 2:
		return m.Function(m.Nested(blocks))
	}
	return m.Function(m.Mixed(m.Nested(blocks)))
}

// eachFlow hands over functions of all kinds: all of up to four blocks that go to none, one, or two blocks, and greater ones by chance.
func eachFlow(t *testing.T, do func(f api.Func)) {
	for blocks := 1; blocks <= 4; blocks++ {
		// Of four blocks both orders of two labels would be many, and which is first means nothing here.
		made.All(blocks, blocks < 4, do)
	}
	m := made.New(10)
	for range 4000 {
		f := some(m, 1+m.Intn(12))
		if e := graph.Shaped(f); e != (api.Err{}) {
			t.Fatalf("%v is not well shaped: %v", f.Blocks, e)
		}
		do(f)
	}
	for range 100 {
		do(some(m, 13+m.Intn(40)))
	}
}
