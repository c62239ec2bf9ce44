package space

import (
	"twinshaft/api"
	"twinshaft/mem"
)

// Memory tells the memory itself, which others may change.
func (s *Space) Memory() *mem.Mem {
	if !s.valid() {
		return nil
	}
	return s.memory
}

// Func tells whose frame the current one is.
func (s *Space) Func() int {
	if !s.valid() {
		return 0
	}
	return s.now.function
}

// Place tells the place of the current instruction.
func (s *Space) Place() int {
	if !s.valid() {
		return 0
	}
	return s.now.place
}

// At tells where the current frame begins.
func (s *Space) At() uint64 {
	if !s.valid() {
		return 0
	}
	return s.now.at
}

// Fuel tells how much fuel is left.
func (s *Space) Fuel() int {
	if !s.valid() {
		return 0
	}
	return int(s.fuel.Load())
}

// Depth tells how many calls have not returned.
func (s *Space) Depth() int {
	if !s.valid() {
		return 0
	}
	return len(s.links)
}

// End tells how the run ended, and whether it did.
func (s *Space) End() (api.Ending, bool) {
	if !s.valid() {
		return api.Ending{}, false
	}
	return s.end, s.end.Kind != 0
}

// Outcome tells what has been done, and how the run ended; the ending is zero as long as it runs.
func (s *Space) Outcome() api.Outcome {
	if !s.valid() {
		return api.Outcome{}
	}
	return s.outcome()
}
