package rvstep_test

import (
	"math/big"
	"slices"
	"testing"

	"twinshaft/api"
	"twinshaft/mem"
	"twinshaft/rvcode"
	"twinshaft/rvstep"
)

// model is a machine as the chapter tells it, without the packages below it but rvcode: its bytes are a plain slice.
type model struct {
	regs  [32]uint64
	place uint64
	bytes []byte
	code  []uint32
}

func signed(x uint64) *big.Int   { return big.NewInt(int64(x)) }
func unsigned(x uint64) *big.Int { return new(big.Int).SetUint64(x) }

// modulo is x modulo 2^64, where Mod, unlike Rem, is never below 0.
func modulo(x *big.Int) uint64 {
	return new(big.Int).Mod(x, new(big.Int).Lsh(big.NewInt(1), 64)).Uint64()
}

// upper is a product divided by 2^64, rounded down: big's Rsh is, below 0 too.
func upper(x, y *big.Int) uint64 {
	product := new(big.Int).Mul(x, y)
	return modulo(product.Rsh(product, 64))
}

// quotient and remainder round towards 0; by 0 they are all ones, and the first number.
func quotient(x, y *big.Int) uint64 {
	if y.Sign() == 0 {
		return 1<<64 - 1
	}
	return modulo(new(big.Int).Quo(x, y))
}

func remainder(x, y *big.Int) uint64 {
	if y.Sign() == 0 {
		return modulo(x)
	}
	return modulo(new(big.Int).Rem(x, y))
}

// wide is the word that is a number of 32 bits, signed.
func wide(x uint32) uint64 { return uint64(int64(int32(x))) }

// half is the word of the low 32 bits of a number, signed.
func half(x uint64) uint64 { return wide(uint32(x)) }

func truth(b bool) uint64 {
	if b {
		return 1
	}
	return 0
}

// computed is what an operation makes of two words, and whether it is one that makes something of two words.
func computed(name string, s, t uint64) (uint64, bool) {
	switch name {
	case "addi", "add":
		return modulo(new(big.Int).Add(signed(s), signed(t))), true
	case "sub":
		return modulo(new(big.Int).Sub(signed(s), signed(t))), true
	case "slti", "slt":
		return truth(signed(s).Cmp(signed(t)) < 0), true
	case "sltiu", "sltu":
		return truth(unsigned(s).Cmp(unsigned(t)) < 0), true
	case "xori", "xor":
		return s ^ t, true
	case "ori", "or":
		return s | t, true
	case "andi", "and":
		return s & t, true
	case "slli", "sll":
		return modulo(new(big.Int).Lsh(unsigned(s), uint(t%64))), true
	case "srli", "srl":
		return modulo(new(big.Int).Rsh(unsigned(s), uint(t%64))), true
	case "srai", "sra":
		return modulo(new(big.Int).Rsh(signed(s), uint(t%64))), true
	case "mul":
		return modulo(new(big.Int).Mul(signed(s), signed(t))), true
	case "mulh":
		return upper(signed(s), signed(t)), true
	case "mulhsu":
		return upper(signed(s), unsigned(t)), true
	case "mulhu":
		return upper(unsigned(s), unsigned(t)), true
	case "div":
		return quotient(signed(s), signed(t)), true
	case "divu":
		return quotient(unsigned(s), unsigned(t)), true
	case "rem":
		return remainder(signed(s), signed(t)), true
	case "remu":
		return remainder(unsigned(s), unsigned(t)), true
	}
	return computedOfHalves(name, uint32(s), uint32(t))
}

func computedOfHalves(name string, s, t uint32) (uint64, bool) {
	switch name {
	case "addiw", "addw":
		return wide(s + t), true
	case "subw":
		return wide(s - t), true
	case "slliw", "sllw":
		return wide(s << (t % 32)), true
	case "srliw", "srlw":
		return wide(s >> (t % 32)), true
	case "sraiw", "sraw":
		return wide(uint32(int32(s) >> (t % 32))), true
	case "mulw":
		return wide(s * t), true
	case "divw":
		return half(quotient(signed(wide(s)), signed(wide(t)))), true
	case "divuw":
		return half(quotient(unsigned(uint64(s)), unsigned(uint64(t)))), true
	case "remw":
		return half(remainder(signed(wide(s)), signed(wide(t)))), true
	case "remuw":
		return half(remainder(unsigned(uint64(s)), unsigned(uint64(t)))), true
	}
	return 0, false
}

// goes tells whether an operation is a branch, and whether it goes.
func goes(name string, s, t uint64) (bool, bool) {
	switch name {
	case "beq":
		return true, s == t
	case "bne":
		return true, s != t
	case "blt":
		return true, signed(s).Cmp(signed(t)) < 0
	case "bge":
		return true, signed(s).Cmp(signed(t)) >= 0
	case "bltu":
		return true, unsigned(s).Cmp(unsigned(t)) < 0
	case "bgeu":
		return true, unsigned(s).Cmp(unsigned(t)) >= 0
	}
	return false, false
}

// access is how many bytes an operation loads or stores (0 if it does neither), and of what kind it is.
func access(name string) (n int, stores, signs bool) {
	switch name {
	case "lb", "lh", "lw", "ld":
		signs = true
	case "lbu", "lhu", "lwu":
	case "sb", "sh", "sw", "sd":
		stores = true
	default:
		return 0, false, false
	}
	switch name[1] {
	case 'b':
		return 1, stores, signs
	case 'h':
		return 2, stores, signs
	case 'w':
		return 4, stores, signs
	}
	return 8, stores, signs
}

// fits is what layer 2 says, with numbers without bounds.
func (m *model) fits(at uint64, n int) bool {
	end := new(big.Int).Add(unsigned(at), big.NewInt(int64(n)))
	return at >= 16 && end.Cmp(big.NewInt(int64(len(m.bytes)))) <= 0
}

// accessed does a load or a store.
func (m *model) accessed(i api.Rv, n int, stores, signs bool) int {
	at := modulo(new(big.Int).Add(unsigned(m.regs[i.Rs1]), big.NewInt(int64(i.Imm))))
	if !m.fits(at, n) {
		return api.EndAccess
	}
	part := m.bytes[at : at+uint64(n)]
	if stores {
		for k := range part {
			part[k] = byte(m.regs[i.Rs2] >> (8 * k))
		}
		return api.EndRan
	}
	v := uint64(0)
	for k, b := range part {
		v += uint64(b) << (8 * k)
	}
	if signs && n < 8 && part[n-1] >= 128 {
		v -= 1 << (8 * n)
	}
	m.set(i.Rd, v)
	return api.EndRan
}

func (m *model) set(n int, v uint64) {
	if n != 0 {
		m.regs[n] = v
	}
}

// step is a step of the model.
func (m *model) step() int {
	if m.place%4 != 0 {
		return api.EndMisaligned
	}
	if m.place < 1<<32 || m.place >= 1<<32+4*uint64(len(m.code)) {
		return api.EndOutOfCode
	}
	i, e := rvcode.Decode(m.code[(m.place-1<<32)/4])
	if e != api.OK {
		return api.EndIllegal
	}
	return m.does(i)
}

// does does an instruction.
func (m *model) does(i api.Rv) int {
	name, form := rvcode.Name(i.Op), rvcode.Form(i.Op)
	s, t, next := m.regs[i.Rs1], m.regs[i.Rs2], m.place+4
	if form != "R" {
		t = uint64(i.Imm)
	}
	if v, ok := computed(name, s, t); ok {
		m.set(i.Rd, v)
		m.place = next
		return api.EndRan
	}
	if branch, goes := goes(name, s, m.regs[i.Rs2]); branch {
		m.place = next
		if goes {
			m.place = next - 4 + uint64(i.Imm)
		}
		return api.EndRan
	}
	if n, stores, signs := access(name); n > 0 {
		end := m.accessed(i, n, stores, signs)
		if end == api.EndRan {
			m.place = next
		}
		return end
	}
	switch name {
	case "lui":
		m.set(i.Rd, uint64(4096*i.Imm))
		m.place = next
	case "auipc":
		m.set(i.Rd, m.place+uint64(4096*i.Imm))
		m.place = next
	case "jal":
		m.set(i.Rd, next)
		m.place += uint64(i.Imm)
	case "jalr":
		m.set(i.Rd, next)
		m.place = (s + uint64(i.Imm)) / 2 * 2
	case "ecall":
		return api.EndCall
	default:
		panic(name)
	}
	return api.EndRan
}

// run is a run of the model.
func (m *model) run(most int) (int, int) {
	n := 0
	for n < most {
		if end := m.step(); end != api.EndRan {
			return end, n
		}
		n++
	}
	return api.EndRan, n
}

// pair is a machine, its memory, and the model of both.
type pair struct {
	x      *rvstep.Machine
	memory *mem.Mem
	model  model
}

// start makes a machine and its model; the code is what words say.
func start(t *testing.T, size int, code ...uint32) *pair {
	t.Helper()
	m, e := mem.New(size)
	if e != api.OK {
		t.Fatal(e)
	}
	x, e := rvstep.New(m)
	if x == nil || e != api.OK {
		t.Fatal(x, e)
	}
	if e := x.Load(code); e != api.OK {
		t.Fatal(e)
	}
	return &pair{x, m, model{place: 1 << 32, bytes: make([]byte, size), code: slices.Clone(code)}}
}

// set sets a register of both.
func (p *pair) set(t *testing.T, n int, v uint64) {
	t.Helper()
	if e := p.x.Set(n, v); e != api.OK {
		t.Fatalf("Set(%d): %v", n, e)
	}
	p.model.set(n, v)
}

// lay lays bytes in the memories of both.
func (p *pair) lay(t *testing.T, at uint64, b []byte) {
	t.Helper()
	if e := p.memory.Lay(at, b); e != api.OK {
		t.Fatalf("Lay(%d): %v", at, e)
	}
	copy(p.model.bytes[at:], b)
}

// jump puts both at a place.
func (p *pair) jump(t *testing.T, at uint64) {
	t.Helper()
	if e := p.x.Jump(at); e != api.OK {
		t.Fatalf("Jump(%d): %v", at, e)
	}
	p.model.place = at
}

// alike checks that registers, place and memory of the machine are those of the model.
func (p *pair) alike(t *testing.T) {
	t.Helper()
	if got := p.registers(); got != p.model.regs {
		t.Fatalf("registers %#x, not %#x", got, p.model.regs)
	}
	if got := p.x.Place(); got != p.model.place {
		t.Fatalf("place %#x, not %#x", got, p.model.place)
	}
	if got := p.bytes(t); !slices.Equal(got, p.model.bytes[16:]) {
		t.Fatalf("memory %v, not %v", got, p.model.bytes[16:])
	}
}

func (p *pair) registers() [32]uint64 {
	var out [32]uint64
	for n := range out {
		out[n] = p.x.Reg(n)
	}
	return out
}

// bytes are the bytes of the machine's memory from 16 on.
func (p *pair) bytes(t *testing.T) []byte {
	t.Helper()
	out, e := p.memory.Bytes(16, p.memory.Size()-16)
	if e != api.OK {
		t.Fatal(e)
	}
	return out
}

// step does a step of both, checks that they are alike behind it, and tells how it ended.
func (p *pair) step(t *testing.T) int {
	t.Helper()
	got, want := p.x.Step(), p.model.step()
	if got != want {
		t.Fatalf("Step at %#x: %d, not %d", p.x.Place(), got, want)
	}
	p.alike(t)
	return got
}

// word is the word of an instruction.
func word(t *testing.T, i api.Rv) uint32 {
	t.Helper()
	w, e := rvcode.Encode(i)
	if e != api.OK {
		t.Fatalf("Encode(%v): %v", i, e)
	}
	return w
}

// words are the words of instructions.
func words(t *testing.T, l ...api.Rv) []uint32 {
	t.Helper()
	var out []uint32
	for _, i := range l {
		out = append(out, word(t, i))
	}
	return out
}

// mixed are numbers that look mixed, the same ones in each run.
type mixed uint64

func (x *mixed) next() uint64 {
	*x = *x*6364136223846793005 + 1442695040888963407
	return uint64(*x ^ *x>>29)
}

// below is a number below n.
func (x *mixed) below(n int) int {
	return int(x.next() >> 11 % uint64(n))
}
