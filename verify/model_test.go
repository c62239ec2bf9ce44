package verify_test

import (
	"math"
	"slices"
	"testing"

	"twinshaft/api"
	"twinshaft/module"
	"twinshaft/verify"
)

// The model says all of layer 12 once more, with nothing but a valid module and the tables of layers 6 and 7.

// length is how many bytes an instruction has.
func length(i api.Ins) int {
	switch i.Op {
	case api.OpNop:
		return 1
	case api.OpConst:
		return 10
	case api.OpMov, api.OpJmp:
		return 3
	case api.OpCall:
		return 4 + len(i.Args)
	case api.OpRet, api.OpGetb, api.OpPutb, api.OpExit:
		return 2
	}
	return 4
}

func hasTarget(i api.Ins) bool { return i.Op >= api.OpJmp && i.Op <= api.OpBrnz }

func stops(i api.Ins) bool {
	return i.Op == api.OpJmp || i.Op == api.OpRet || i.Op == api.OpExit
}

// writes is the register that an instruction writes, or -1.
func writes(i api.Ins) int {
	switch i.Op {
	case api.OpNop, api.OpStore, api.OpJmp, api.OpBrz, api.OpBrnz, api.OpRet, api.OpPutb, api.OpExit:
		return -1
	}
	return i.A
}

// reads are the registers that it reads.
func reads(i api.Ins) []int {
	switch i.Op {
	case api.OpNop, api.OpConst, api.OpLea, api.OpData, api.OpJmp, api.OpGetb:
		return nil
	case api.OpMov, api.OpExt, api.OpLoad:
		return []int{i.B}
	case api.OpStore:
		return []int{i.A, i.B}
	case api.OpBrz, api.OpBrnz, api.OpRet, api.OpPutb, api.OpExit:
		return []int{i.A}
	case api.OpCall:
		return i.Args
	}
	return []int{i.B, i.C}
}

// placesOf are the places of the instructions, and the end.
func placesOf(l []api.Ins) []int {
	out := []int{0}
	for n, i := range l {
		out = append(out, out[n]+length(i))
	}
	return out
}

// goes are the numbers of the instructions that may come after one.
func goes(l []api.Ins, n int) []int {
	var out []int
	if !stops(l[n]) {
		out = append(out, n+1)
	}
	if hasTarget(l[n]) {
		out = append(out, slices.Index(placesOf(l), l[n].N))
	}
	return out
}

// wrongFlow is why code does not flow.
func wrongFlow(l []api.Ins) api.Errno {
	if len(l) == 0 {
		return api.ErrForm
	}
	places := placesOf(l)[:len(l)]
	for _, i := range l {
		if hasTarget(i) && !slices.Contains(places, i.N) {
			return api.ErrTarget
		}
	}
	if !stops(l[len(l)-1]) {
		return api.ErrForm
	}
	return api.OK
}

// wrongInstruction is what is wrong with an instruction of a module.
func wrongInstruction(m api.Module, i api.Ins) api.Errno {
	switch {
	case i.Op == api.OpCall && i.N >= len(m.Funcs):
		return api.ErrTarget
	case i.Op == api.OpCall && len(i.Args) != m.Funcs[i.N].Params:
		return api.ErrArg
	case i.Op == api.OpData && i.N > len(m.Data):
		return api.ErrRange
	}
	return api.OK
}

// comesUnwritten tells whether a path leads to an instruction on which nothing before its end writes a register.
func comesUnwritten(l []api.Ins, end, register int) bool {
	seen := make([]bool, len(l))
	waiting := []int{0}
	for len(waiting) > 0 {
		n := waiting[0]
		waiting = waiting[1:]
		if seen[n] {
			continue
		}
		seen[n] = true
		if writes(l[n]) != register {
			waiting = append(waiting, goes(l, n)...)
		}
	}
	return seen[end]
}

// readsUnwritten tells whether an instruction reads a register that is not sure.
func readsUnwritten(f api.Func, n int) bool {
	return slices.ContainsFunc(reads(f.Code[n]), func(register int) bool {
		return register >= f.Params && comesUnwritten(f.Code, n, register)
	})
}

// model is what Find has to tell.
func model(m api.Module) (int, int, api.Errno) {
	if e := module.Check(m); e != api.OK {
		return -1, -1, e
	}
	if m.Funcs[0].Params != 0 {
		return 0, -1, api.ErrArg
	}
	for number, f := range m.Funcs {
		if e := wrongFlow(f.Code); e != api.OK {
			return number, -1, e
		}
		for n, i := range f.Code {
			if e := wrongInstruction(m, i); e != api.OK {
				return number, n, e
			}
		}
		for n := range f.Code {
			if readsUnwritten(f, n) {
				return number, n, api.ErrUnset
			}
		}
	}
	return -1, -1, api.OK
}

// An outcome is what was found, and how deep.
type outcome struct {
	e        api.Errno
	deep     int
	function bool
}

// likeTheModel holds a module against the model, and tells the outcome: 0 deep is the module, 1 a function, 2 an instruction; function tells whether it is another one than the first.
func likeTheModel(t *testing.T, m api.Module) outcome {
	t.Helper()
	function, instruction, e := model(m)
	finds(t, m, function, instruction, e)
	out := outcome{e: e, function: function > 0}
	if function >= 0 {
		out.deep++
	}
	if instruction >= 0 {
		out.deep++
	}
	return out
}

// wantMet wants each outcome of the chapter, by which a valid module is accepted or not, to be met so many times.
func wantMet(t *testing.T, met map[outcome]int, times int) {
	t.Helper()
	for _, o := range []outcome{
		{e: api.OK},
		{e: api.ErrArg, deep: 1},
		{e: api.ErrForm, deep: 1}, {e: api.ErrForm, deep: 1, function: true},
		{e: api.ErrTarget, deep: 1}, {e: api.ErrTarget, deep: 1, function: true},
		{e: api.ErrTarget, deep: 2}, {e: api.ErrTarget, deep: 2, function: true},
		{e: api.ErrArg, deep: 2}, {e: api.ErrArg, deep: 2, function: true},
		{e: api.ErrRange, deep: 2}, {e: api.ErrRange, deep: 2, function: true},
		{e: api.ErrUnset, deep: 2}, {e: api.ErrUnset, deep: 2, function: true},
	} {
		if met[o] < times {
			t.Errorf("%v is met %d times", o, met[o])
		}
	}
}

// each is all code of at most so many instructions of some.
func each(some []api.Ins, many int) [][]api.Ins {
	out := [][]api.Ins{nil}
	for n := 0; n < len(out); n++ {
		if len(out[n]) < many {
			for _, i := range some {
				out = append(out, append(slices.Clone(out[n]), i))
			}
		}
	}
	return out
}

func TestLikeTheModelOnTwoSmallFunctions(t *testing.T) {
	some := []api.Ins{get(0), exit(0), call(0, 0), call(0, 1), call(0, 1, 0), call(0, 2), data(0, 1), data(0, 2), jmp(0), brz(0, 2)}
	met := map[outcome]int{}
	codes := each(some, 2)
	for _, one := range codes {
		for _, two := range codes {
			for params := range 3 {
				m := with(1, small(params/2, 1, one...), small(params%2, 1, two...))
				met[likeTheModel(t, m)]++
			}
		}
	}
	wantMet(t, met, 10)
}

func TestLikeTheModelOnOneFunction(t *testing.T) {
	some := []api.Ins{get(0), get(1), exit(1), call(1, 0), call(0, 1), data(0, 1), jmp(2), brz(0, 4), brz(1, 0)}
	met := map[api.Errno]int{}
	for _, l := range each(some, 4) {
		met[likeTheModel(t, of(function(0, l...))).e]++
	}
	for _, e := range []api.Errno{api.OK, api.ErrForm, api.ErrTarget, api.ErrRange, api.ErrUnset} {
		if met[e] < 10 {
			t.Errorf("%v is met %d times", e, met[e])
		}
	}
}

// mixed tells numbers that look mixed, always the same ones.
type mixed uint64

func (m *mixed) below(n int) int {
	*m = *m*6364136223846793005 + 1442695040888963407
	return int(uint64(*m)>>33) % n
}

// once tells whether this is one of so many times.
func (m *mixed) once(of int) bool { return m.below(of) == 0 }

// register is one of those that are written at first, or once in a while any.
func (m *mixed) register(wild int) int {
	if m.once(wild) {
		return m.below(12)
	}
	return m.below(6)
}

// call is one that is right, or once in a while not.
func (m *mixed) call(of api.Module, wild int) api.Ins {
	f := m.below(len(of.Funcs))
	many := of.Funcs[f].Params
	if m.once(wild) {
		many = m.below(9)
	}
	if m.once(wild) {
		f += m.below(3)
	}
	out := call(m.register(wild), f)
	for range many {
		out.Args = append(out.Args, m.register(wild))
	}
	return out
}

// data is one that is right, or once in a while not.
func (m *mixed) data(of api.Module, to, wild int) api.Ins {
	out := data(to, m.below(len(of.Data)+1))
	if m.once(wild) {
		out.N += m.below(3)
	}
	return out
}

// instruction is one of any kind; its target, if it has one, is still the number of an instruction.
func (m *mixed) instruction(of api.Module, many, wild int) api.Ins {
	one, two, three := m.register(wild), m.register(wild), m.register(wild)
	switch m.below(8) {
	case 0:
		return m.call(of, wild)
	case 1:
		return m.data(of, one, wild)
	case 2:
		return api.Ins{Op: api.OpBrz + m.below(2), A: one, N: m.below(many)}
	case 3:
		return []api.Ins{ret(one), exit(one), jmp(m.below(many))}[m.below(3)]
	case 4:
		return []api.Ins{put(one), get(one), {}, {Op: api.OpConst, A: one}}[m.below(4)]
	case 5:
		return []api.Ins{{Op: api.OpMov, A: one, B: two}, {Op: api.OpExt, A: one, B: two, N: 1}, {Op: api.OpLoad, A: one, B: two, N: 7}, {Op: api.OpStore, A: one, B: two, N: 8}}[m.below(4)]
	case 6:
		return api.Ins{Op: api.OpLea, A: one}
	}
	return api.Ins{Op: api.OpAdd + m.below(17), A: one, B: two, C: three}
}

// aim puts places for the numbers of instructions, once in a while another place.
func (m *mixed) aim(l []api.Ins, wild int) {
	places := placesOf(l)
	for n, i := range l {
		if hasTarget(i) {
			l[n].N = places[i.N]
			if m.once(wild) {
				l[n].N += m.below(3)
			}
		}
	}
}

// code writes some registers at first, and then does anything.
func (m *mixed) code(of api.Module, params, wild int) []api.Ins {
	var out []api.Ins
	for r := params; r < 6; r++ {
		out = append(out, set(r))
	}
	for range m.below(15) {
		out = append(out, m.instruction(of, len(out)+1, wild))
	}
	if !m.once(wild) {
		out = append(out, ret(m.register(wild)))
	}
	if m.once(wild) {
		out = nil
	}
	m.aim(out, wild)
	return out
}

// module is one in which once in a while something is not right.
func (m *mixed) module(wild int) api.Module {
	out := with(m.below(5), slices.Repeat([]api.Func{small(0, 12)}, 1+m.below(5))...)
	for n := range out.Funcs {
		if n > 0 || m.once(wild) {
			out.Funcs[n].Params = m.below(7)
		}
	}
	for n, f := range out.Funcs {
		out.Funcs[n].Code = m.code(out, f.Params, wild)
	}
	return out
}

func TestLikeTheModelOnMixedModules(t *testing.T) {
	m := mixed(12)
	met := map[outcome]int{}
	for n := range 12000 {
		met[likeTheModel(t, m.module(10+n%200))]++
	}
	wantMet(t, met, 20)
}

// TestErrorsAreThoseOfModule has instructions and functions whose fields are good or not.
func TestErrorsAreThoseOfModule(t *testing.T) {
	m := mixed(13)
	numbers := []int{0, 1, 2, 4, 8, 9, 33, 63, 64, 65, -1, 4095, 4096, 4097, 8192, 8193, 1 << 32, math.MaxInt, math.MinInt}
	met := map[api.Errno]int{}
	for range 10000 {
		a := m.module(1000)
		f := &a.Funcs[m.below(len(a.Funcs))]
		fields := []*int{&f.Params, &f.Regs, &f.Area}
		for n := range f.Code {
			i := &f.Code[n]
			fields = append(fields, &i.Op, &i.A, &i.B, &i.C, &i.N)
		}
		*fields[m.below(len(fields))] = numbers[m.below(len(numbers))]
		if o := likeTheModel(t, a); o.deep == 0 {
			met[o.e]++
		}
	}
	for _, e := range []api.Errno{api.OK, api.ErrArg, api.ErrRange, api.ErrIllegal} {
		if met[e] < 50 {
			t.Errorf("%v is met %d times", e, met[e])
		}
	}
}

// P12.2

// accepted are mixed modules that are accepted.
func accepted(t *testing.T, m *mixed, tries int) []api.Module {
	var out []api.Module
	for range tries {
		if a := m.module(200); verify.Check(a) == api.OK {
			out = append(out, a)
		}
	}
	if len(out) < tries/10 {
		t.Errorf("of %d modules %d are accepted", tries, len(out))
	}
	return out
}

// TestWhatIsAcceptedIsValid reads and writes it, too.
func TestWhatIsAcceptedIsValid(t *testing.T) {
	m := mixed(14)
	for _, a := range accepted(t, &m, 1000) {
		b, e := module.Put(a)
		back, f := module.Get(b)
		if module.Check(a) != api.OK || e != api.OK || f != (api.Fault{}) {
			t.Fatalf("%s is accepted, but not valid: %v %v", brief(a), e, f)
		}
		accepts(t, back)
	}
}

// TestPathsOfWhatIsAccepted goes at random along what may come next.
func TestPathsOfWhatIsAccepted(t *testing.T) {
	m := mixed(15)
	for _, a := range accepted(t, &m, 1000) {
		for _, f := range a.Funcs {
			for range 20 {
				walk(t, &m, a, f)
			}
		}
	}
}

// walk goes a path of a function, and looks at each instruction on it.
func walk(t *testing.T, m *mixed, a api.Module, f api.Func) {
	t.Helper()
	written := uint64(1)<<f.Params - 1
	for at, steps := 0, 0; steps < 60; steps++ {
		i := f.Code[at]
		for _, register := range reads(i) {
			if written>>register&1 == 0 {
				t.Fatalf("%s is accepted, but %d reads what was not written", brief(a), at)
			}
		}
		if i.Op == api.OpCall && (i.N >= len(a.Funcs) || len(i.Args) != a.Funcs[i.N].Params) {
			t.Fatalf("%s is accepted, but %d calls what it should not", brief(a), at)
		}
		if r := writes(i); r >= 0 {
			written |= 1 << r
		}
		next := goes(f.Code, at)
		if len(next) == 0 {
			return
		}
		at = next[m.below(len(next))]
		if at < 0 || at >= len(f.Code) {
			t.Fatalf("%s is accepted, but goes to %d", brief(a), at)
		}
	}
}

func TestMoreDataAndFunctions(t *testing.T) {
	m := mixed(16)
	all := accepted(t, &m, 250)
	met := 0
	for n, a := range all {
		for _, more := range []int{1, 2, 100, api.MaxData - len(a.Data)} {
			accepts(t, api.Module{Data: append(slices.Clone(a.Data), make([]byte, more)...), Funcs: a.Funcs})
		}
		for _, b := range all[:n] {
			// What calls itself as the first function calls another one there, which takes no more.
			if len(b.Funcs) == 1 && len(b.Data) <= len(a.Data) {
				accepts(t, api.Module{Data: a.Data, Funcs: append(slices.Clone(a.Funcs), b.Funcs[0])})
				met++
			}
		}
		accepts(t, api.Module{Data: a.Data, Funcs: append(slices.Clone(a.Funcs), slices.Repeat([]api.Func{good()}, api.MaxFuncs-len(a.Funcs))...)})
	}
	if met < 500 {
		t.Error(met)
	}
}

// TestLongCode has as many functions, bytes of code and places in the data as there may be.
func TestLongCode(t *testing.T) {
	l := []api.Ins{get(0)}
	for n := range (api.MaxCode - 6) / 8 {
		l = append(l, brz(0, 2+8*(n*37%511)), data(0, n))
	}
	l = append(l, exit(0))
	m := with(510, slices.Repeat([]api.Func{function(0, l...)}, api.MaxFuncs)...)
	accepts(t, m)
	m.Funcs[63].Code = append(slices.Clone(l[:len(l)-1]), exit(1))
	finds(t, m, 63, len(l)-1, api.ErrUnset)
	m.Data = m.Data[:509]
	finds(t, m, 0, len(l)-2, api.ErrRange)
}
