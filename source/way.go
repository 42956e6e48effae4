package source

import "turntable/api"

// way is how an instruction goes on: behind it, to another block, into a function, out of one, or by a trap.
type way interface{ way() }

// behind goes on with the next instruction; made is what this one made, if it makes anything.
type behind struct{ made api.Val }

// across goes on with a block.
type across struct{ block int }

// into goes on with a function, and what it is given.
type into struct {
	name  string
	given []api.Val
}

// out goes on with the call by which the function was called; answer is what that makes, if it makes anything.
type out struct{ answer api.Val }

// trapped does not go on.
type trapped struct{ trap int }

func (behind) way()  {}
func (across) way()  {}
func (into) way()    {}
func (out) way()     {}
func (trapped) way() {}

// follow has the run go on as the instruction says that the function at work did.
func (r *Run) follow(f *frame, w way) {
	switch w := w.(type) {
	case behind:
		f.pass(w.made)
	case across:
		f.cross(w.block)
	case into:
		r.enter(w)
	case out:
		r.leave(w.answer)
	case trapped:
		r.end(w.trap)
	}
}

// enter has another function be at work, if there is room for it.
func (r *Run) enter(w into) {
	if len(r.work) >= api.MaxDepth {
		r.end(api.TrapDepth)
		return
	}
	r.work = append(r.work, begun(r.funcs[w.name], w.given))
}

// leave has the function be at work no more; behind the first one the run has ended, and a number alone is told.
func (r *Run) leave(answer api.Val) {
	last := len(r.work) - 1
	r.work[last] = nil
	r.work = r.work[:last]
	if last > 0 {
		r.work[last-1].pass(answer)
		return
	}
	r.result.Ended = api.Exits
	if answer.Type == api.TInt {
		r.result.N = answer.N
	}
}

// end ends the run by a trap.
func (r *Run) end(trap int) { r.result.Ended, r.result.Trap = api.Traps, trap }
