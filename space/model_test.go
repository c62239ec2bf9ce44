package space_test

import (
	"reflect"
	"slices"
	"testing"

	"twinshaft/api"
	"twinshaft/space"
)

// The model says layer 15 once more, by one list of bytes for the memory, the whole input with a place in it, and a stack of whole frames.

// modelFrame is where a run is in a function; those of the callers stand below, each with what its call said.
type modelFrame struct {
	f, at, place, result int
}

type modelSpace struct {
	m      api.Module
	memory []byte
	in     []byte
	got    int
	done   []api.Deed
	fuel   int
	frames []modelFrame
	end    api.Ending
}

// up is a number, brought to the next multiple of sixteen.
func up(n int) int {
	for n%16 != 0 {
		n++
	}
	return n
}

func modelNew(m api.Module, memory int, in []byte, fuel int) (*modelSpace, api.Errno) {
	if memory < 16 || memory > 65536 || memory%16 != 0 || fuel < 0 || fuel > 10_000_000 {
		return nil, api.ErrArg
	}
	if up(16+len(m.Data)) > memory {
		return nil, api.ErrFull
	}
	x := &modelSpace{m: m, memory: make([]byte, memory), in: in, fuel: fuel, frames: []modelFrame{{at: memory}}}
	copy(x.memory[16:], m.Data)
	if at, fits := x.below(0); fits {
		x.frames[0].at = at
	} else {
		x.end.Kind = 3
	}
	return x, api.OK
}

func (x *modelSpace) now() *modelFrame { return &x.frames[len(x.frames)-1] }

// below is where a frame would begin that ends where the current one begins, and whether it fits.
func (x *modelSpace) below(f int) (int, bool) {
	at := x.now().at - up(8*x.m.Funcs[f].Regs+x.m.Funcs[f].Area)
	return at, at >= up(16+len(x.m.Data))
}

// wrongRegister is whether one of these is not a register of the current function.
func (x *modelSpace) wrongRegister(rs ...int) bool {
	for _, r := range rs {
		if r < 0 || r > x.m.Funcs[x.now().f].Regs-1 {
			return true
		}
	}
	return false
}

func (x *modelSpace) state() api.Errno {
	if x.end != (api.Ending{}) {
		return api.ErrState
	}
	return api.OK
}

func (x *modelSpace) get(r int) (uint64, api.Errno) {
	if x.state() != api.OK {
		return 0, api.ErrState
	}
	if x.wrongRegister(r) {
		return 0, api.ErrRange
	}
	v := uint64(0)
	for i := 7; i >= 0; i-- {
		v = v*256 + uint64(x.memory[x.now().at+8*r+i])
	}
	return v, api.OK
}

func (x *modelSpace) set(r int, v uint64) api.Errno {
	if x.state() != api.OK {
		return api.ErrState
	}
	if x.wrongRegister(r) {
		return api.ErrRange
	}
	for i := range 8 {
		x.memory[x.now().at+8*r+i] = byte(v)
		v /= 256
	}
	return api.OK
}

func (x *modelSpace) goes(place int) api.Errno {
	if x.state() != api.OK {
		return api.ErrState
	}
	if place < 0 || place > 4095 {
		return api.ErrRange
	}
	x.now().place = place
	return api.OK
}

func (x *modelSpace) burn(n int) api.Errno {
	if x.state() != api.OK {
		return api.ErrState
	}
	if n < 0 || n > x.fuel {
		return api.ErrArg
	}
	x.fuel -= n
	return api.OK
}

func (x *modelSpace) call(f int, args []int, result, back int) api.Errno {
	if x.state() != api.OK {
		return api.ErrState
	}
	if f < 0 || f > len(x.m.Funcs)-1 || len(args) != x.m.Funcs[f].Params {
		return api.ErrArg
	}
	if x.wrongRegister(args...) || x.wrongRegister(result) || back < 0 || back > 4095 {
		return api.ErrRange
	}
	at, fits := x.below(f)
	if !fits || len(x.frames) == 257 {
		x.end = api.Ending{Kind: 3}
		return api.OK
	}
	var values []uint64
	for _, r := range args {
		v, _ := x.get(r)
		values = append(values, v)
	}
	x.now().place, x.now().result = back, result
	x.frames = append(x.frames, modelFrame{f: f, at: at})
	for r, v := range values {
		x.set(r, v)
	}
	return api.OK
}

func (x *modelSpace) returns(v uint64) api.Errno {
	if x.state() != api.OK {
		return api.ErrState
	}
	if len(x.frames) == 1 {
		x.end = api.Ending{Kind: 1, Code: int(v % 256)}
		return api.OK
	}
	x.frames = x.frames[:len(x.frames)-1]
	result := x.now().result
	x.now().result = 0
	return x.set(result, v)
}

func (x *modelSpace) stop(e api.Ending) api.Errno {
	if x.state() != api.OK {
		return api.ErrState
	}
	if !slices.Contains(endings(), e) {
		return api.ErrArg
	}
	x.end = e
	return api.OK
}

func (x *modelSpace) getb() (int, api.Errno) {
	if x.state() != api.OK {
		return 0, api.ErrState
	}
	if len(x.done) == 100_000 {
		return 0, api.ErrFull
	}
	b := -1
	if x.got < len(x.in) {
		b = int(x.in[x.got])
		x.got++
	}
	x.done = append(x.done, api.Deed{Kind: 1, B: b})
	return b, api.OK
}

func (x *modelSpace) putb(b int) api.Errno {
	if x.state() != api.OK {
		return api.ErrState
	}
	if len(x.done) == 100_000 {
		return api.ErrFull
	}
	x.done = append(x.done, api.Deed{Kind: 2, B: (b%256 + 256) % 256})
	return api.OK
}

func (x *modelSpace) copied() *modelSpace {
	c := *x
	c.memory, c.done, c.frames = slices.Clone(x.memory), slices.Clone(x.done), slices.Clone(x.frames)
	return &c
}

// same holds two models of the same module against each other.
func (x *modelSpace) same(y *modelSpace) bool {
	return slices.Equal(x.memory, y.memory) && slices.Equal(x.done, y.done) && slices.Equal(x.in[x.got:], y.in[y.got:]) &&
		x.fuel == y.fuel && x.end == y.end && slices.Equal(x.frames, y.frames)
}

// endings are all that are valid.
func endings() []api.Ending {
	out := []api.Ending{{Kind: 2, Code: 1}, {Kind: 2, Code: 2}, {Kind: 3}, {Kind: 4}}
	for code := range 256 {
		out = append(out, api.Ending{Kind: 1, Code: code})
	}
	return out
}

// seen is all that can be seen of a space by looking at it.
type seen struct {
	memory                       []byte
	function, place, fuel, depth int
	at                           uint64
	end                          api.Ending
	ended                        bool
	outcome                      api.Outcome
	registers                    []uint64
	wrong                        []api.Errno
}

func (x *modelSpace) seen() seen {
	out := seen{
		memory: slices.Clone(x.memory[16:]), function: x.now().f, place: x.now().place, fuel: x.fuel, depth: len(x.frames) - 1,
		at: uint64(x.now().at), end: x.end, ended: x.end.Kind != 0, outcome: api.Outcome{Deeds: slices.Clone(x.done), End: x.end},
	}
	out.look(x.get)
	return out
}

// look adds the registers, and what is said of those just outside.
func (s *seen) look(get func(r int) (uint64, api.Errno)) {
	for r := -1; r <= 64; r++ {
		v, e := get(r)
		s.registers, s.wrong = append(s.registers, v), append(s.wrong, e)
	}
	if len(s.outcome.Deeds) == 0 {
		s.outcome.Deeds = nil
	}
	if len(s.memory) == 0 {
		s.memory = nil
	}
}

// looked is what is seen of a space.
func looked(s *space.Space) seen {
	bytes, _ := s.Memory().Bytes(16, s.Memory().Size()-16)
	end, ended := s.End()
	out := seen{
		memory: bytes, function: s.Func(), place: s.Place(), fuel: s.Fuel(), depth: s.Depth(),
		at: s.At(), end: end, ended: ended, outcome: s.Outcome(),
	}
	out.look(s.Get)
	return out
}

// agree checks that a space is as its model.
func agree(t *testing.T, what string, s *space.Space, x *modelSpace) {
	t.Helper()
	if got, want := looked(s), x.seen(); !reflect.DeepEqual(got, want) {
		t.Fatalf("%s:\n%+v\nnot\n%+v", what, got, want)
	}
}

// mixed tells numbers that look mixed, always the same ones.
type mixed uint64

func (m *mixed) below(n int) int {
	*m = *m*6364136223846793005 + 1442695040888963407
	return int(uint64(*m)>>33) % n
}

// module is a mixed module with small functions.
func (m *mixed) module() api.Module {
	out := api.Module{Data: make([]byte, m.below(3)*m.below(20))}
	for i := range out.Data {
		out.Data[i] = byte(1 + m.below(255))
	}
	for range 1 + m.below(4) {
		regs := m.below(5)
		out.Funcs = append(out.Funcs, api.Func{Params: m.below(regs + 1), Regs: regs, Area: m.below(2) * m.below(30), Code: []api.Ins{{}}})
	}
	return out
}

// number is small, or has all its bytes.
func (m *mixed) number() uint64 {
	return uint64(m.below(1<<30)) << m.below(40) * uint64(1+m.below(1000))
}

// registers are n, most of which the current function of a model has.
func (m *mixed) registers(x *modelSpace, n int) []int {
	out := []int{}
	for range n {
		r := m.below(x.m.Funcs[x.now().f].Regs + 1)
		if m.below(10) > 0 && x.m.Funcs[x.now().f].Regs > 0 {
			r = m.below(x.m.Funcs[x.now().f].Regs)
		}
		out = append(out, r-m.below(20)/19)
	}
	return out
}
