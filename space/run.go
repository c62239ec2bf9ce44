package space

import (
	"twinshaft/api"
	"twinshaft/deeds"
	"twinshaft/frame"
)

// registerSize is how many bytes a register has.
const registerSize = 8

// What a link consists of: where the call was (the function, and where its frame begins), the place it returns to, the register of its result.
const (
	linkFunction = iota
	linkAt
	linkBack
	linkResult
	linkParts
)

// link is what a call leaves behind, by which it returns. Links stand beside the memory, where no store reaches them.
type link [linkParts]int

// refusal tells why nothing can be done in a space.
func (s *Space) refusal() api.Errno {
	if !s.valid() {
		return api.ErrNil
	}
	if s.end.Kind != 0 {
		return api.ErrState
	}
	return api.OK
}

// isRegister reports whether the current function has a register.
func (s *Space) isRegister(r int) bool {
	return r >= 0 && r < s.module.Funcs[s.now.function].Regs
}

// isPlace reports whether an instruction may stand at a place.
func isPlace(place int) bool {
	return place >= 0 && place < api.MaxCode
}

// Get tells what a register contains.
func (s *Space) Get(r int) (uint64, api.Errno) {
	if e := s.refusal(); e != api.OK {
		return 0, e
	}
	if !s.isRegister(r) {
		return 0, api.ErrRange
	}
	return s.memory.Load(frame.Slot(s.now.at, r), registerSize)
}

// Set makes a register contain a number.
func (s *Space) Set(r int, v uint64) api.Errno {
	if e := s.refusal(); e != api.OK {
		return e
	}
	if !s.isRegister(r) {
		return api.ErrRange
	}
	return s.memory.Store(frame.Slot(s.now.at, r), registerSize, v)
}

// Go goes to a place of the current function.
func (s *Space) Go(place int) api.Errno {
	if e := s.refusal(); e != api.OK {
		return e
	}
	if !isPlace(place) {
		return api.ErrRange
	}
	s.now.place = place
	return api.OK
}

// Burn takes fuel away.
func (s *Space) Burn(n int) api.Errno {
	if e := s.refusal(); e != api.OK {
		return e
	}
	for {
		fuel := s.fuel.Load()
		if n < 0 || int64(n) > fuel {
			return api.ErrArg
		}
		if s.fuel.CompareAndSwap(fuel, fuel-int64(n)) {
			return api.OK
		}
	}
}

// Call calls a function with what registers contain.
func (s *Space) Call(f int, args []int, result, back int) api.Errno {
	if e := s.callRefusal(f, args, result, back); e != api.OK {
		return e
	}
	from := s.now
	if len(s.links) == api.MaxDepth || !s.enter(f) {
		s.end.Kind = api.EndStack
		return api.OK
	}
	s.links = append(s.links, link{linkFunction: from.function, linkAt: int(from.at), linkBack: back, linkResult: result})
	for param, arg := range args {
		if e := s.pass(frame.Slot(from.at, arg), frame.Slot(s.now.at, param)); e != api.OK {
			return e
		}
	}
	return api.OK
}

// callRefusal tells what is wrong with a call.
func (s *Space) callRefusal(f int, args []int, result, back int) api.Errno {
	if e := s.refusal(); e != api.OK {
		return e
	}
	if f < 0 || f >= len(s.module.Funcs) || len(args) != s.module.Funcs[f].Params {
		return api.ErrArg
	}
	for _, arg := range args {
		if !s.isRegister(arg) {
			return api.ErrRange
		}
	}
	if !s.isRegister(result) || !isPlace(back) {
		return api.ErrRange
	}
	return api.OK
}

// enter begins a function in a frame below the current one, and reports whether that fits. Otherwise nothing has changed.
func (s *Space) enter(f int) bool {
	fn := s.module.Funcs[f]
	at, e := frame.Push(s.now.at, fn.Regs, fn.Area, s.floor)
	if e != api.OK {
		return false
	}
	s.now = current{function: f, at: at}
	return true
}

// pass copies what a register contains to another one, by the places of both.
func (s *Space) pass(from, to uint64) api.Errno {
	v, e := s.memory.Load(from, registerSize)
	if e != api.OK {
		return e
	}
	return s.memory.Store(to, registerSize, v)
}

// Return returns a number to where the last call was; where none was, it is the exit's code.
func (s *Space) Return(v uint64) api.Errno {
	if e := s.refusal(); e != api.OK {
		return e
	}
	last := len(s.links) - 1
	if last < 0 {
		s.end = api.Ending{Kind: api.EndExit, Code: int(byte(v))}
		return api.OK
	}
	l := s.links[last]
	s.links = s.links[:last]
	s.now = current{function: l[linkFunction], at: uint64(l[linkAt]), place: l[linkBack]}
	return s.memory.Store(frame.Slot(s.now.at, l[linkResult]), registerSize, v)
}

// Stop ends the run.
func (s *Space) Stop(e api.Ending) api.Errno {
	if refused := s.refusal(); refused != api.OK {
		return refused
	}
	if wrong := deeds.Check(api.Outcome{End: e}); wrong != api.OK {
		return wrong
	}
	s.end = e
	return api.OK
}

// Getb gets a byte of the tape.
func (s *Space) Getb() (int, api.Errno) {
	if e := s.refusal(); e != api.OK {
		return 0, e
	}
	return s.tape.Get()
}

// Putb puts a byte there.
func (s *Space) Putb(b int) api.Errno {
	if e := s.refusal(); e != api.OK {
		return e
	}
	return s.tape.Put(b)
}
