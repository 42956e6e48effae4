package dom

import (
	"testing"

	"turntable/api"
	"turntable/graph"
	"turntable/made"
)

// eachFlow hands over functions of all kinds: all of up to four blocks that go to none, one, or two blocks, and greater ones by chance.
func eachFlow(t *testing.T, do func(f api.Func)) {
	for blocks := 1; blocks <= 4; blocks++ {
		// Of four blocks both orders of two labels would be many, and which is first means nothing here.
		made.All(blocks, blocks < 4, do)
	}
	m := made.New(9)
	for i := range 3000 {
		edges := m.Edges(1 + m.Intn(11))
		switch i % 3 {
		case 1:
			edges = m.Near(len(edges))
		case 2:
			edges = m.Mixed(m.Near(len(edges)))
		}
		f := m.Function(edges)
		if e := graph.Shaped(f); e != (api.Err{}) {
			t.Fatalf("%v is not well shaped: %v", f.Blocks, e)
		}
		do(f)
	}
	for range 30 {
		do(m.Function(m.Edges(12 + m.Intn(40))))
		do(m.Function(m.Mixed(m.Near(12 + m.Intn(40)))))
	}
}
