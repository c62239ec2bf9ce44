package rvstep

import (
	"twinshaft/api"
	"twinshaft/word"
)

// effect executes an instruction at the place of a machine, and tells how the step ends.
type effect func(x *Machine, i api.Rv) int

// effects has what each operation does.
func effects() map[int]effect {
	all := map[int]effect{
		api.RvLui:   (*Machine).lui,
		api.RvAuipc: (*Machine).auipc,
		api.RvJal:   (*Machine).jal,
		api.RvJalr:  (*Machine).jalr,
		api.RvBeq:   (*Machine).beq,
		api.RvBne:   (*Machine).bne,
		api.RvBlt:   (*Machine).blt,
		api.RvBge:   (*Machine).bge,
		api.RvBltu:  (*Machine).bltu,
		api.RvBgeu:  (*Machine).bgeu,
		api.RvLb:    (*Machine).lb,
		api.RvLh:    (*Machine).lh,
		api.RvLw:    (*Machine).lw,
		api.RvLd:    (*Machine).ld,
		api.RvLbu:   (*Machine).lbu,
		api.RvLhu:   (*Machine).lhu,
		api.RvLwu:   (*Machine).lwu,
		api.RvSb:    (*Machine).sb,
		api.RvSh:    (*Machine).sh,
		api.RvSw:    (*Machine).sw,
		api.RvSd:    (*Machine).sd,
		api.RvEcall: (*Machine).ecall,
	}
	for op := api.RvAddi; op <= api.RvSraiw; op++ {
		all[op] = (*Machine).withImmediate
	}
	for op := api.RvAdd; op <= api.RvRemuw; op++ {
		all[op] = (*Machine).withRegister
	}
	return all
}

// named is the function of two words that an operation computes, of their halves if it is half.
type named struct {
	fn   uint8
	half bool
}

// functions names the function of each operation from RvAddi to RvRemuw; the others have none.
func functions() [api.RvRemuw + 1]named {
	return [...]named{
		api.RvAddi: {fn: api.FnAdd}, api.RvSlti: {fn: api.FnLt}, api.RvSltiu: {fn: api.FnLtu},
		api.RvXori: {fn: api.FnXor}, api.RvOri: {fn: api.FnOr}, api.RvAndi: {fn: api.FnAnd},
		api.RvSlli: {fn: api.FnShl}, api.RvSrli: {fn: api.FnShr}, api.RvSrai: {fn: api.FnSar},

		api.RvAddiw: {api.FnAdd, true},
		api.RvSlliw: {api.FnShl, true}, api.RvSrliw: {api.FnShr, true}, api.RvSraiw: {api.FnSar, true},

		api.RvAdd: {fn: api.FnAdd}, api.RvSub: {fn: api.FnSub},
		api.RvSll: {fn: api.FnShl}, api.RvSrl: {fn: api.FnShr}, api.RvSra: {fn: api.FnSar},
		api.RvSlt: {fn: api.FnLt}, api.RvSltu: {fn: api.FnLtu},
		api.RvXor: {fn: api.FnXor}, api.RvOr: {fn: api.FnOr}, api.RvAnd: {fn: api.FnAnd},

		api.RvAddw: {api.FnAdd, true}, api.RvSubw: {api.FnSub, true},
		api.RvSllw: {api.FnShl, true}, api.RvSrlw: {api.FnShr, true}, api.RvSraw: {api.FnSar, true},

		api.RvMul: {fn: api.FnMul}, api.RvMulh: {fn: api.FnMulh}, api.RvMulhsu: {fn: api.FnMulhsu}, api.RvMulhu: {fn: api.FnMulhu},
		api.RvDiv: {fn: api.FnDiv}, api.RvDivu: {fn: api.FnDivu}, api.RvRem: {fn: api.FnRem}, api.RvRemu: {fn: api.FnRemu},

		api.RvMulw: {api.FnMul, true},
		api.RvDivw: {api.FnDiv, true}, api.RvDivuw: {api.FnDivu, true}, api.RvRemw: {api.FnRem, true}, api.RvRemuw: {api.FnRemu, true},
	}
}

func (x *Machine) withImmediate(i api.Rv) int { return x.compute(i, uint64(i.Imm)) }
func (x *Machine) withRegister(i api.Rv) int  { return x.compute(i, x.regs[i.Rs2]) }

// compute writes what an operation's function makes of Rs1 and another word.
func (x *Machine) compute(i api.Rv, other uint64) int {
	f, do := functions()[i.Op], word.Do
	if f.half {
		do = word.Half
	}
	// There is no error to pass on: word has every function that is named.
	v, _ := do(int(f.fn), x.regs[i.Rs1], other)
	return x.result(i, v)
}

// result ends a step that does no more than to write a word into Rd.
func (x *Machine) result(i api.Rv, v uint64) int {
	x.write(i.Rd, v)
	return x.next()
}

// next ends a step that goes on to the next place.
func (x *Machine) next() int {
	x.place += wordSize
	return api.EndRan
}

// upper is the number that the immediate of lui and auipc stands for.
func upper(i api.Rv) uint64 { return uint64(i.Imm) << 12 }

func (x *Machine) lui(i api.Rv) int   { return x.result(i, upper(i)) }
func (x *Machine) auipc(i api.Rv) int { return x.result(i, x.place+upper(i)) }

func (x *Machine) jal(i api.Rv) int { return x.link(i, x.place+uint64(i.Imm)) }

func (x *Machine) jalr(i api.Rv) int {
	return x.link(i, (x.regs[i.Rs1]+uint64(i.Imm))&^1)
}

// link goes to a place, and writes into Rd what stood behind the old one. The place has been determined before, since Rd may be the register that it comes from.
func (x *Machine) link(i api.Rv, to uint64) int {
	x.write(i.Rd, x.place+wordSize)
	x.place = to
	return api.EndRan
}

func (x *Machine) beq(i api.Rv) int { return x.branch(i, x.regs[i.Rs1] == x.regs[i.Rs2]) }
func (x *Machine) bne(i api.Rv) int { return x.branch(i, x.regs[i.Rs1] != x.regs[i.Rs2]) }
func (x *Machine) blt(i api.Rv) int { return x.branch(i, x.less(i)) }
func (x *Machine) bge(i api.Rv) int { return x.branch(i, !x.less(i)) }

func (x *Machine) bltu(i api.Rv) int { return x.branch(i, x.regs[i.Rs1] < x.regs[i.Rs2]) }
func (x *Machine) bgeu(i api.Rv) int { return x.branch(i, x.regs[i.Rs1] >= x.regs[i.Rs2]) }

// less reports whether Rs1 is less than Rs2 as signed numbers.
func (x *Machine) less(i api.Rv) bool {
	return int64(x.regs[i.Rs1]) < int64(x.regs[i.Rs2])
}

// branch goes as far as the immediate says if that holds, otherwise to the next place.
func (x *Machine) branch(i api.Rv, holds bool) int {
	if !holds {
		return x.next()
	}
	x.place += uint64(i.Imm)
	return api.EndRan
}

func (x *Machine) lb(i api.Rv) int  { return x.load(i, 1, word.Sext) }
func (x *Machine) lh(i api.Rv) int  { return x.load(i, 2, word.Sext) }
func (x *Machine) lw(i api.Rv) int  { return x.load(i, 4, word.Sext) }
func (x *Machine) ld(i api.Rv) int  { return x.load(i, 8, word.Sext) }
func (x *Machine) lbu(i api.Rv) int { return x.load(i, 1, word.Zext) }
func (x *Machine) lhu(i api.Rv) int { return x.load(i, 2, word.Zext) }
func (x *Machine) lwu(i api.Rv) int { return x.load(i, 4, word.Zext) }

// load writes the number of size bytes in memory, extended.
func (x *Machine) load(i api.Rv, size int, extend func(v uint64, size int) uint64) int {
	v, e := x.memory.Load(x.address(i), size)
	if e != api.OK {
		return api.EndAccess
	}
	return x.result(i, extend(v, size))
}

func (x *Machine) sb(i api.Rv) int { return x.store(i, 1) }
func (x *Machine) sh(i api.Rv) int { return x.store(i, 2) }
func (x *Machine) sw(i api.Rv) int { return x.store(i, 4) }
func (x *Machine) sd(i api.Rv) int { return x.store(i, 8) }

// store lays the lowest size bytes of Rs2 in memory.
func (x *Machine) store(i api.Rv, size int) int {
	if e := x.memory.Store(x.address(i), size, x.regs[i.Rs2]); e != api.OK {
		return api.EndAccess
	}
	return x.next()
}

// address is the place in memory that a load or a store is about.
func (x *Machine) address(i api.Rv) uint64 {
	return x.regs[i.Rs1] + uint64(i.Imm)
}

func (x *Machine) ecall(api.Rv) int { return api.EndCall }
