package interp

import (
	"twinshaft/api"
	"twinshaft/space"
)

// step is an instruction that is being done in a space.
type step struct {
	spot
	x *Interp
	s *space.Space
	// read is what the registers contain that the instruction reads, in the order of op.Reads: nothing is written before all have been read.
	read [api.MaxArgs]uint64
}

// begin prepares the step at the place of a space that runs, and changes nothing; its errors are all that there can be, since what is done after it does not fail.
func (x *Interp) begin(s *space.Space) (step, api.Errno) {
	found, ok := x.find(s.Func(), s.Place())
	if !ok {
		return step{}, api.ErrArg
	}
	t := step{spot: found, x: x, s: s}
	if !t.registers() || !t.callable() {
		return step{}, api.ErrArg
	}
	return t, api.OK
}

// registers reads what the instruction reads, and reports whether the space has all registers that it names.
func (t *step) registers() bool {
	if t.writes != none {
		if _, e := t.s.Get(t.writes); e != api.OK {
			return false
		}
	}
	for n, r := range t.reads {
		v, e := t.s.Get(r)
		if e != api.OK {
			return false
		}
		t.read[n] = v
	}
	return true
}

// callable reports whether the space, which may be of another module, has a function that takes what a call passes. That is asked by a call that returns to no place, which is refused in any case.
func (t *step) callable() bool {
	const nowhere = -1
	return t.ins.Op != api.OpCall || t.s.Call(t.ins.N, t.ins.Args, t.ins.A, nowhere) == api.ErrRange
}

// next ends a step that goes on to the place after it.
func (t step) next() api.Errno { return t.s.Go(t.after) }

// result ends such a step that makes the register A contain a word.
func (t step) result(v uint64) api.Errno {
	if e := t.next(); e != api.OK {
		return e
	}
	return t.s.Set(t.ins.A, v)
}

// stop ends a step that ends the run.
func (t step) stop(kind, code int) api.Errno {
	return t.s.Stop(api.Ending{Kind: kind, Code: code})
}
