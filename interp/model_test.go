package interp_test

import (
	"math/big"
	"reflect"
	"slices"
	"testing"

	"twinshaft/api"
	"twinshaft/interp"
	"twinshaft/space"
)

// The model says layer 16 once more, with bare bytes, whole frames and numbers without bounds, and with nothing of the packages below it.

// length is how many bytes an instruction has.
func length(i api.Ins) int {
	switch i.Op {
	case api.OpNop:
		return 1
	case api.OpConst:
		return 10
	case api.OpMov, api.OpJmp:
		return 3
	case api.OpCall:
		return 4 + len(i.Args)
	case api.OpRet, api.OpGetb, api.OpPutb, api.OpExit:
		return 2
	}
	return 4
}

// placesOf are the places of the instructions, and the end.
func placesOf(l []api.Ins) []int {
	out := []int{0}
	for n, i := range l {
		out = append(out, out[n]+length(i))
	}
	return out
}

func signed(x uint64) *big.Int   { return big.NewInt(int64(x)) }
func unsigned(x uint64) *big.Int { return new(big.Int).SetUint64(x) }

// modulo is x modulo 2^64, where Mod, unlike Rem, is never below 0.
func modulo(x *big.Int) uint64 {
	return new(big.Int).Mod(x, new(big.Int).Lsh(big.NewInt(1), 64)).Uint64()
}

func truth(b bool) uint64 {
	if b {
		return 1
	}
	return 0
}

// computed is what an operation makes of two words, of which the second one is not 0 if it divides.
func computed(op int, s, t uint64) uint64 {
	out := new(big.Int)
	switch op {
	case api.OpAdd:
		return modulo(out.Add(signed(s), signed(t)))
	case api.OpSub:
		return modulo(out.Sub(signed(s), signed(t)))
	case api.OpMul:
		return modulo(out.Mul(signed(s), signed(t)))
	case api.OpDiv:
		return modulo(out.Quo(signed(s), signed(t)))
	case api.OpDivu:
		return modulo(out.Quo(unsigned(s), unsigned(t)))
	case api.OpRem:
		return modulo(out.Rem(signed(s), signed(t)))
	case api.OpRemu:
		return modulo(out.Rem(unsigned(s), unsigned(t)))
	case api.OpAnd:
		return s & t
	case api.OpOr:
		return s | t
	case api.OpXor:
		return s ^ t
	case api.OpShl:
		return modulo(out.Lsh(unsigned(s), uint(t%64)))
	case api.OpShr:
		return modulo(out.Rsh(unsigned(s), uint(t%64)))
	case api.OpSar:
		return modulo(out.Rsh(signed(s), uint(t%64)))
	case api.OpLt:
		return truth(signed(s).Cmp(signed(t)) < 0)
	case api.OpLtu:
		return truth(unsigned(s).Cmp(unsigned(t)) < 0)
	case api.OpEq:
		return truth(s == t)
	}
	return truth(s != t)
}

// extended is what a kind makes of a word.
func extended(kind int, v uint64) uint64 {
	switch kind {
	case api.KindS8:
		return uint64(int8(v))
	case api.KindU8:
		return uint64(uint8(v))
	case api.KindS16:
		return uint64(int16(v))
	case api.KindU16:
		return uint64(uint16(v))
	case api.KindS32:
		return uint64(int32(v))
	case api.KindU32:
		return uint64(uint32(v))
	}
	return v
}

// sizeOf is how many bytes a kind has in memory.
func sizeOf(kind int) int { return []int{0, 1, 1, 2, 2, 4, 4, 8}[kind] }

// modelFrame is where a run is in a function; those of the callers stand below, each with what its call said.
type modelFrame struct {
	f, at, place, result int
}

type model struct {
	m      api.Module
	memory []byte
	in     []byte
	done   []api.Deed
	fuel   int
	frames []modelFrame
	end    api.Ending
	calls  [65]int
	// went is how often each operation was executed.
	went [api.Ops]int
}

// up is a number, brought to the next multiple of sixteen.
func up(n int) int {
	for n%16 != 0 {
		n++
	}
	return n
}

// modelOf is the model of a new space.
func modelOf(m api.Module, memory int, in []byte, fuel int) *model {
	x := &model{m: m, memory: make([]byte, memory), in: in, fuel: fuel, frames: []modelFrame{{at: memory}}}
	copy(x.memory[16:], m.Data)
	if at, fits := x.below(0); fits {
		x.frames[0].at = at
	} else {
		x.end.Kind = api.EndStack
	}
	return x
}

func (x *model) now() *modelFrame { return &x.frames[len(x.frames)-1] }

// below is where a frame would begin that ends where the current one begins, and whether it fits.
func (x *model) below(f int) (int, bool) {
	at := x.now().at - up(8*x.m.Funcs[f].Regs+x.m.Funcs[f].Area)
	return at, at >= up(16+len(x.m.Data))
}

// number is that of n bytes at a place, the lowest first.
func (x *model) number(at, n int) uint64 {
	v := uint64(0)
	for i := n - 1; i >= 0; i-- {
		v = v*256 + uint64(x.memory[at+i])
	}
	return v
}

func (x *model) lay(at, n int, v uint64) {
	for i := range n {
		x.memory[at+i] = byte(v >> (8 * i))
	}
}

// fits is what layer 2 says, with numbers without bounds.
func (x *model) fits(at uint64, n int) bool {
	end := new(big.Int).Add(unsigned(at), big.NewInt(int64(n)))
	return at >= 16 && end.Cmp(big.NewInt(int64(len(x.memory)))) <= 0
}

func (x *model) get(r int) uint64    { return x.number(x.now().at+8*r, 8) }
func (x *model) set(r int, v uint64) { x.lay(x.now().at+8*r, 8, v) }

func (x *model) ends(kind, code int) { x.end = api.Ending{Kind: kind, Code: code} }

// instruction is the one at the place, and the place after it.
func (x *model) instruction() (api.Ins, int) {
	l := x.m.Funcs[x.now().f].Code
	places := placesOf(l)
	n := slices.Index(places[:len(l)], x.now().place)
	return l[n], places[n+1]
}

// step does a step of a model that runs, at the place of an instruction.
func (x *model) step() {
	if x.fuel == 0 {
		x.ends(api.EndFuel, 0)
		return
	}
	x.fuel--
	i, after := x.instruction()
	x.went[i.Op]++
	result := func(v uint64) {
		x.now().place = after
		x.set(i.A, v)
	}
	switch i.Op {
	case api.OpNop:
		x.now().place = after
	case api.OpConst:
		result(modulo(big.NewInt(int64(i.N))))
	case api.OpMov:
		result(x.get(i.B))
	case api.OpExt:
		result(extended(i.N, x.get(i.B)))
	case api.OpLea:
		result(uint64(x.now().at + 8*x.m.Funcs[x.now().f].Regs + i.N))
	case api.OpData:
		result(uint64(16 + i.N))
	case api.OpLoad:
		at, n := x.get(i.B), sizeOf(i.N)
		if !x.fits(at, n) {
			x.ends(api.EndTrap, api.TrapReach)
			return
		}
		result(extended(i.N, x.number(int(at), n)))
	case api.OpStore:
		at, v := x.get(i.A), x.get(i.B)
		if !x.fits(at, i.N) {
			x.ends(api.EndTrap, api.TrapReach)
			return
		}
		x.now().place = after
		x.lay(int(at), i.N, v)
	case api.OpDiv, api.OpDivu, api.OpRem, api.OpRemu:
		if x.get(i.C) == 0 {
			x.ends(api.EndTrap, api.TrapDiv)
			return
		}
		result(computed(i.Op, x.get(i.B), x.get(i.C)))
	case api.OpJmp, api.OpBrz, api.OpBrnz, api.OpCall, api.OpRet:
		x.goes(i, after)
	case api.OpGetb, api.OpPutb, api.OpExit:
		x.tells(i, after)
	default:
		result(computed(i.Op, x.get(i.B), x.get(i.C)))
	}
}

// goes does those that do not just go on.
func (x *model) goes(i api.Ins, after int) {
	switch i.Op {
	case api.OpJmp:
		x.now().place = i.N
	case api.OpBrz, api.OpBrnz:
		x.now().place = after
		if (x.get(i.A) == 0) == (i.Op == api.OpBrz) {
			x.now().place = i.N
		}
	case api.OpCall:
		x.call(i, after)
	case api.OpRet:
		x.returns(x.get(i.A))
	}
}

func (x *model) call(i api.Ins, after int) {
	x.calls[i.N]++
	at, fits := x.below(i.N)
	if !fits || len(x.frames) == 257 {
		x.ends(api.EndStack, 0)
		return
	}
	var values []uint64
	for _, r := range i.Args {
		values = append(values, x.get(r))
	}
	x.now().place, x.now().result = after, i.A
	x.frames = append(x.frames, modelFrame{f: i.N, at: at})
	for r, v := range values {
		x.set(r, v)
	}
}

func (x *model) returns(v uint64) {
	if len(x.frames) == 1 {
		x.ends(api.EndExit, int(v%256))
		return
	}
	x.frames = x.frames[:len(x.frames)-1]
	x.set(x.now().result, v)
}

// tells does those that have to do with the outside.
func (x *model) tells(i api.Ins, after int) {
	if i.Op == api.OpExit {
		x.ends(api.EndExit, int(x.get(i.A)%256))
		return
	}
	if len(x.done) == 100_000 {
		x.ends(api.EndFuel, 0)
		return
	}
	x.now().place = after
	if i.Op == api.OpPutb {
		x.done = append(x.done, api.Deed{Kind: api.DeedPut, B: int(x.get(i.A) % 256)})
		return
	}
	if len(x.in) == 0 {
		x.set(i.A, 1<<64-1)
		x.done = append(x.done, api.Deed{Kind: api.DeedGot, B: -1})
		return
	}
	x.set(i.A, uint64(x.in[0]))
	x.done = append(x.done, api.Deed{Kind: api.DeedGot, B: int(x.in[0])})
	x.in = x.in[1:]
}

// run does up to so many steps, and tells how many.
func (x *model) run(most int) int {
	n := 0
	for ; n < most && x.end.Kind == 0; n++ {
		x.step()
	}
	return n
}

// seen is all that can be seen of a space by looking at it.
type seen struct {
	memory                       []byte
	function, place, fuel, depth int
	at                           uint64
	ended                        bool
	outcome                      api.Outcome
}

func (x *model) seen() seen {
	out := seen{
		memory: slices.Clone(x.memory[16:]), function: x.now().f, place: x.now().place, fuel: x.fuel, depth: len(x.frames) - 1,
		at: uint64(x.now().at), ended: x.end.Kind != 0, outcome: api.Outcome{Deeds: slices.Clone(x.done), End: x.end},
	}
	return out.plain()
}

// plain has nil for each empty list.
func (s seen) plain() seen {
	if len(s.memory) == 0 {
		s.memory = nil
	}
	if len(s.outcome.Deeds) == 0 {
		s.outcome.Deeds = nil
	}
	return s
}

// looked is what is seen of a space.
func looked(s *space.Space) seen {
	bytes, _ := s.Memory().Bytes(16, s.Memory().Size()-16)
	_, ended := s.End()
	out := seen{
		memory: bytes, function: s.Func(), place: s.Place(), fuel: s.Fuel(), depth: s.Depth(),
		at: s.At(), ended: ended, outcome: s.Outcome(),
	}
	return out.plain()
}

// agree checks that a space, and the interpreter of its steps, are as the model.
func agree(t *testing.T, what string, x *interp.Interp, s *space.Space, want *model) {
	t.Helper()
	if got, want := looked(s), want.seen(); !reflect.DeepEqual(got, want) {
		t.Fatalf("%s:\n%+v\nnot\n%+v", what, got, want)
	}
	for f, n := range want.calls {
		if x.Calls(f) != n {
			t.Fatalf("%s: %d calls of %d, not %d", what, x.Calls(f), f, n)
		}
	}
}

// mixed tells numbers that look mixed, always the same ones.
type mixed uint64

func (m *mixed) below(n int) int {
	*m = *m*6364136223846793005 + 1442695040888963407
	return int(uint64(*m)>>33) % n
}

// number is small, or near an edge, or has all its bytes; it may be below 0.
func (m *mixed) number() int {
	switch m.below(4) {
	case 0:
		return m.below(20) - 5
	case 1:
		return 1<<m.below(64) - m.below(3) + 1
	case 2:
		return -1<<m.below(64) + m.below(3) - 1
	}
	return m.below(1<<31)<<m.below(40) - m.below(1<<31)
}

// module is a mixed module that is accepted: each function begins by writing all its registers, so none is read unwritten.
func (m *mixed) module() api.Module {
	out := api.Module{Data: make([]byte, m.below(3)*m.below(30))}
	for i := range out.Data {
		out.Data[i] = byte(m.below(256))
	}
	for n := range 1 + m.below(4) {
		f := api.Func{Regs: 1 + m.below(5), Area: m.below(3) * m.below(20)}
		if n > 0 {
			f.Params = min(f.Regs, m.below(4))
		}
		out.Funcs = append(out.Funcs, f)
	}
	for n := range out.Funcs {
		out.Funcs[n].Code = m.code(out, out.Funcs[n])
	}
	return out
}

// code is mixed code of a function.
func (m *mixed) code(whole api.Module, f api.Func) []api.Ins {
	var l []api.Ins
	for r := f.Params; r < f.Regs; r++ {
		l = append(l, m.writes(whole, f, r))
	}
	for range 1 + m.below(12) {
		l = append(l, m.some(whole, f)...)
	}
	last := []int{api.OpExit, api.OpRet, api.OpRet, api.OpJmp}[m.below(4)]
	l = append(l, api.Ins{Op: last})
	if last != api.OpJmp {
		l[len(l)-1].A = m.below(f.Regs)
	}
	return m.aimed(l)
}

// aimed is code whose jumps and branches go to instructions, most of them onwards: a loop takes the whole fuel.
func (m *mixed) aimed(l []api.Ins) []api.Ins {
	places := placesOf(l)
	for n, i := range l {
		if i.Op < api.OpJmp || i.Op > api.OpBrnz {
			continue
		}
		to := m.below(len(l))
		if n+1 < len(l) && m.below(3) > 0 {
			to = n + 1 + m.below(len(l)-n-1)
		}
		l[n].N = places[to]
	}
	return l
}

// writes is an instruction that reads nothing, and writes a register.
func (m *mixed) writes(whole api.Module, f api.Func, r int) api.Ins {
	switch m.below(6) {
	case 0:
		return api.Ins{Op: api.OpLea, A: r, N: m.below(f.Area + 1)}
	case 1:
		return api.Ins{Op: api.OpData, A: r, N: m.below(len(whole.Data) + 1)}
	case 2:
		return api.Ins{Op: api.OpGetb, A: r}
	}
	return api.Ins{Op: api.OpConst, A: r, N: m.number()}
}

// some is an instruction or two: most accesses come right after their place.
func (m *mixed) some(whole api.Module, f api.Func) []api.Ins {
	a, b, c := m.below(f.Regs), m.below(f.Regs), m.below(f.Regs)
	switch m.below(11) {
	case 0:
		return []api.Ins{{Op: api.OpExt, A: a, B: b, N: 1 + m.below(6)}}
	case 1, 2:
		return append(m.place(whole, f, b), api.Ins{Op: api.OpLoad, A: a, B: b, N: 1 + m.below(7)})
	case 3, 4:
		return append(m.place(whole, f, a), api.Ins{Op: api.OpStore, A: a, B: b, N: 1 << m.below(4)})
	case 5:
		return []api.Ins{{Op: api.OpMov, A: a, B: b}, m.writes(whole, f, c)}
	case 6:
		return []api.Ins{{Op: api.OpBrz + m.below(2), A: a}}
	case 7:
		return m.divides(a, b, c)
	case 8:
		return []api.Ins{m.calls(whole, f)}
	case 9:
		return []api.Ins{{Op: api.OpPutb, A: a}, {Op: api.OpNop}}
	}
	return []api.Ins{{Op: api.OpAdd + m.below(3), A: a, B: b, C: c}, {Op: api.OpAnd + m.below(10), A: b, B: c, C: a}}
}

// place makes a register contain a place where most accesses fit, except for some.
func (m *mixed) place(whole api.Module, f api.Func, r int) []api.Ins {
	if m.below(20) == 0 {
		return nil
	}
	return []api.Ins{{Op: api.OpLea, A: r, N: m.below(f.Area + 1)}, {Op: api.OpData, A: r, N: m.below(len(whole.Data) + 1)}}[m.below(2):][:1]
}

// divides is a division, most of them not by 0.
func (m *mixed) divides(a, b, c int) []api.Ins {
	i := api.Ins{Op: api.OpDiv + m.below(4), A: a, B: b, C: c}
	if m.below(10) == 0 {
		return []api.Ins{i}
	}
	by := 1 + m.below(9)
	if m.below(3) == 0 {
		by = -by
	}
	return []api.Ins{{Op: api.OpConst, A: c, N: by}, i}
}

// calls is a call of some function.
func (m *mixed) calls(whole api.Module, f api.Func) api.Ins {
	n := m.below(len(whole.Funcs))
	i := api.Ins{Op: api.OpCall, A: m.below(f.Regs), N: n}
	for range whole.Funcs[n].Params {
		i.Args = append(i.Args, m.below(f.Regs))
	}
	return i
}
