package interp

import (
	"math"

	"twinshaft/api"
	"twinshaft/frame"
	"twinshaft/word"
)

// dataAt is where data begin in a memory.
const dataAt = 16

// effect does the instruction of a step that has begun, and has burnt its fuel.
type effect func(t step) api.Errno

// effects has what each operation does.
func effects() [api.Ops]effect {
	return [api.Ops]effect{
		api.OpNop:   step.next,
		api.OpConst: step.constant,
		api.OpMov:   step.mov,
		api.OpAdd:   step.compute,
		api.OpSub:   step.compute,
		api.OpMul:   step.compute,
		api.OpDiv:   step.divide,
		api.OpDivu:  step.divide,
		api.OpRem:   step.divide,
		api.OpRemu:  step.divide,
		api.OpAnd:   step.compute,
		api.OpOr:    step.compute,
		api.OpXor:   step.compute,
		api.OpShl:   step.compute,
		api.OpShr:   step.compute,
		api.OpSar:   step.compute,
		api.OpLt:    step.compute,
		api.OpLtu:   step.compute,
		api.OpEq:    step.compute,
		api.OpNe:    step.compute,
		api.OpExt:   step.ext,
		api.OpLoad:  step.load,
		api.OpStore: step.store,
		api.OpLea:   step.lea,
		api.OpData:  step.data,
		api.OpJmp:   step.jmp,
		api.OpBrz:   step.brz,
		api.OpBrnz:  step.brnz,
		api.OpCall:  step.call,
		api.OpRet:   step.ret,
		api.OpGetb:  step.getb,
		api.OpPutb:  step.putb,
		api.OpExit:  step.exit,
	}
}

// functions names the function of two words that each operation from OpAdd to OpNe computes.
func functions() [api.OpNe + 1]int {
	return [...]int{
		api.OpAdd:  api.FnAdd,
		api.OpSub:  api.FnSub,
		api.OpMul:  api.FnMul,
		api.OpDiv:  api.FnDiv,
		api.OpDivu: api.FnDivu,
		api.OpRem:  api.FnRem,
		api.OpRemu: api.FnRemu,
		api.OpAnd:  api.FnAnd,
		api.OpOr:   api.FnOr,
		api.OpXor:  api.FnXor,
		api.OpShl:  api.FnShl,
		api.OpShr:  api.FnShr,
		api.OpSar:  api.FnSar,
		api.OpLt:   api.FnLt,
		api.OpLtu:  api.FnLtu,
		api.OpEq:   api.FnEq,
		api.OpNe:   api.FnNe,
	}
}

// kind is how many bytes a number has in memory, and how it becomes a word.
type kind struct {
	size   int
	extend func(v uint64, size int) uint64
}

// kinds has every kind at its number; at 0 there is none.
func kinds() [api.KindAll + 1]kind {
	return [...]kind{
		api.KindS8:  {1, word.Sext},
		api.KindU8:  {1, word.Zext},
		api.KindS16: {2, word.Sext},
		api.KindU16: {2, word.Zext},
		api.KindS32: {4, word.Sext},
		api.KindU32: {4, word.Zext},
		api.KindAll: {8, word.Zext},
	}
}

func (t step) constant() api.Errno { return t.result(uint64(t.ins.N)) }
func (t step) mov() api.Errno      { return t.result(t.read[0]) }
func (t step) data() api.Errno     { return t.result(dataAt + uint64(t.ins.N)) }

func (t step) lea() api.Errno {
	regs := t.x.functions[t.s.Func()].regs
	return t.result(frame.Area(t.s.At(), regs, t.ins.N))
}

func (t step) compute() api.Errno {
	v, e := word.Do(functions()[t.ins.Op], t.read[0], t.read[1])
	if e != api.OK {
		return e
	}
	return t.result(v)
}

func (t step) divide() api.Errno {
	if t.read[1] == 0 {
		return t.stop(api.EndTrap, api.TrapDiv)
	}
	return t.compute()
}

func (t step) ext() api.Errno {
	k := kinds()[t.ins.N]
	return t.result(k.extend(t.read[0], k.size))
}

func (t step) load() api.Errno {
	k := kinds()[t.ins.N]
	v, e := t.s.Memory().Load(t.read[0], k.size)
	if e != api.OK {
		return t.stop(api.EndTrap, api.TrapReach)
	}
	return t.result(k.extend(v, k.size))
}

func (t step) store() api.Errno {
	if t.s.Memory().Store(t.read[0], t.ins.N, t.read[1]) != api.OK {
		return t.stop(api.EndTrap, api.TrapReach)
	}
	return t.next()
}

func (t step) jmp() api.Errno  { return t.s.Go(t.ins.N) }
func (t step) brz() api.Errno  { return t.branch(t.read[0] == 0) }
func (t step) brnz() api.Errno { return t.branch(t.read[0] != 0) }

// branch goes to the target if that holds, otherwise on to the place after it.
func (t step) branch(holds bool) api.Errno {
	if holds {
		return t.jmp()
	}
	return t.next()
}

func (t step) call() api.Errno {
	t.x.calls[t.ins.N].Add(1)
	return t.s.Call(t.ins.N, t.ins.Args, t.ins.A, t.after)
}

func (t step) ret() api.Errno { return t.s.Return(t.read[0]) }

func (t step) getb() api.Errno {
	b, e := t.s.Getb()
	if e != api.OK {
		return t.full()
	}
	return t.result(uint64(b))
}

func (t step) putb() api.Errno {
	if t.s.Putb(lowest(t.read[0])) != api.OK {
		return t.full()
	}
	return t.next()
}

// full ends a run whose tape has no room for another deed.
func (t step) full() api.Errno { return t.stop(api.EndFuel, 0) }

func (t step) exit() api.Errno { return t.stop(api.EndExit, lowest(t.read[0])) }

// lowest is the lowest byte of a word.
func lowest(v uint64) int { return int(v & math.MaxUint8) }
