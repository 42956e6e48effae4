// Package plain tells what programs mean once more, by functions that call themselves, and lets others watch the values: the tests hold what the layers answer against it. No layer calls it.
package plain

import (
	"slices"

	"turntable/api"
)

// Thing is an object: its letters, and what its slots hold.
type Thing struct {
	Letters string
	Slots   []Cell
}

// Cell is a value: a number, or an object itself (not its number), and a slot of it.
type Cell struct {
	N    int64
	To   *Thing
	Slot int
}

// Seen is told which values were made just now, all at once, and what all values hold then.
type Seen func(made []int, values map[int]Cell)

// Watch is asked at each beginning of a function who is to be told of it while it is at work: of the parameters first.
type Watch func(f api.Func) Seen

// teller is a program that is being told: how many instructions it may do, who watches it, the names of the functions at work, what each one did so far, and how far it came.
type teller struct {
	p     api.Prog
	fuel  int
	watch Watch
	names []string
	did   map[string]api.Effect
	far   api.Result
}

// over is thrown where a run is over.
type over struct{}

// Told is how far a program that may be run comes, in so many instructions.
func Told(p api.Prog, in []int64, fuel int) api.Result { return Watched(p, in, fuel, nobody) }

// nobody watches nothing.
func nobody(api.Func) Seen { return func([]int, map[int]Cell) {} }

// Watched is Told, while somebody watches.
func Watched(p api.Prog, in []int64, fuel int, watch Watch) api.Result {
	far, _ := run(p, in, fuel, watch)
	return far
}

// Done is Told, and what each function that was at work did beside, by its name: also by way of those that it called.
func Done(p api.Prog, in []int64, fuel int) (api.Result, map[string]api.Effect) {
	return run(p, in, fuel, nobody)
}

// run is how far a program comes, and what its functions did.
func run(p api.Prog, in []int64, fuel int, watch Watch) (far api.Result, did map[string]api.Effect) {
	l := &teller{p: p, fuel: fuel, watch: watch, did: map[string]api.Effect{}}
	defer func() {
		if caught := recover(); caught != nil && caught != any(over{}) {
			panic(caught)
		}
		far, did = l.far, l.did
	}()
	main := l.find("main")
	given := make([]Cell, len(main.Params))
	for i := range given {
		if i < len(in) {
			given[i].N = in[i]
		}
	}
	answer := l.call(main, given)
	l.far.Ended = api.Exits
	if main.Ret == api.TInt {
		l.far.N = answer.N
	}
	return l.far, l.did
}

// find is the function of a name.
func (l *teller) find(name string) api.Func {
	return l.p.Funcs[slices.IndexFunc(l.p.Funcs, func(f api.Func) bool { return f.Name == name })]
}

// note notes that something is done by all functions at work: each of them called the next one.
func (l *teller) note(do func(e *api.Effect)) {
	for _, name := range l.names {
		e := l.did[name]
		do(&e)
		l.did[name] = e
	}
}

// rounds notes that one comes again to where one was.
func (l *teller) rounds() { l.note(func(e *api.Effect) { e.Rounds = true }) }

// trap ends the run.
func (l *teller) trap(trap int) {
	l.note(func(e *api.Effect) { e.Traps = true })
	l.far.Ended, l.far.Trap = api.Traps, trap
	panic(over{})
}

// count counts instructions that are to be done, if there is fuel left.
func (l *teller) count(instructions int) {
	if l.far.Steps >= l.fuel {
		panic(over{})
	}
	l.far.Steps += instructions
}

// enter has the function of a name be at work.
func (l *teller) enter(name string) {
	again := slices.Contains(l.names, name)
	l.names = append(l.names, name)
	l.note(func(e *api.Effect) { e.Rounds = e.Rounds || again })
}

// call is what a function answers.
func (l *teller) call(f api.Func, given []Cell) Cell {
	if len(l.names) == api.MaxDepth {
		l.trap(api.TrapDepth)
	}
	l.enter(f.Name)
	defer func() { l.names = l.names[:len(l.names)-1] }()
	w := &work{teller: l, f: f, values: map[int]Cell{}, seen: l.watch(f)}
	var params []int
	for i, c := range given {
		params = append(params, i)
		w.values[i] = c
	}
	w.seen(params, w.values)
	from, at := -1, 0
	been := map[int]int{}
	for {
		if been[at]++; been[at] == 2 {
			l.rounds()
		}
		x := w.through(from, at)
		from = at
		switch x.Op {
		case api.OBr:
			at = x.To[0]
		case api.OIf:
			at = x.To[1]
			if w.values[x.Args[0]].N != 0 {
				at = x.To[0]
			}
		case api.OFail:
			l.trap(api.TrapFail + int(x.N))
		default:
			if len(x.Args) > 0 {
				return w.values[x.Args[0]]
			}
			return Cell{}
		}
	}
}
