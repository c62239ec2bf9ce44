package rvstep_test

import (
	"math"
	"slices"
	"strings"
	"testing"

	"twinshaft/api"
	"twinshaft/mem"
	"twinshaft/rvcode"
	"twinshaft/rvstep"
)

const base = 1 << 32

// edges are the words at which an operation takes a turn, and some ordinary ones.
func edges() []uint64 {
	out := []uint64{0, 1, 2, 3, 7, 10, 12345, 0x0123456789abcdef, 0xfedcba9876543210, 0x5555555555555555, 0xaaaaaaaaaaaaaaaa}
	for _, bit := range []int{5, 6, 7, 11, 15, 31, 32, 63} {
		n := uint64(1) << bit
		out = append(out, n-1, n, n+1, -n-1, -n)
	}
	return out
}

// immediates are some that a form allows, the least and the greatest among them.
func immediates(form string) []int {
	switch form {
	case "I", "S":
		return []int{-2048, -2047, -1024, -9, -1, 0, 1, 2, 5, 31, 32, 63, 64, 1365, 2047}
	case "X":
		return []int{0, 1, 7, 8, 31, 32, 33, 62, 63}
	case "Y":
		return []int{0, 1, 7, 8, 15, 16, 30, 31}
	case "B":
		return []int{-4096, -2050, -6, -4, -2, 0, 2, 4, 8, 2048, 4094}
	case "U":
		return []int{-524288, -524287, -2, -1, 0, 1, 5, 1 << 18, 524287}
	case "J":
		return []int{-1048576, -4098, -4, -2, 0, 2, 4, 4096, 1048574}
	}
	return []int{0}
}

// picks are three registers, some of them the same one, or register 0.
func picks() [][3]int {
	return [][3]int{{3, 1, 2}, {31, 30, 29}, {1, 1, 2}, {2, 1, 2}, {5, 5, 5}, {0, 1, 2}, {0, 0, 0}, {4, 0, 9}, {4, 9, 0}, {6, 0, 0}, {3, 7, 7}}
}

// formed is an instruction with what its form has of three registers and a number.
func formed(op int, r [3]int, n int) api.Rv {
	i, form := api.Rv{Op: op, Imm: n}, rvcode.Form(op)
	if strings.Contains("RIXYUJ", form) {
		i.Rd = r[0]
	}
	if strings.Contains("RIXYSB", form) {
		i.Rs1 = r[1]
	}
	if strings.Contains("RSB", form) {
		i.Rs2 = r[2]
	}
	return i
}

// filled is a machine whose registers, and whose memory, have all sorts of contents.
func filled(t *testing.T, size int, code ...uint32) *pair {
	t.Helper()
	p := start(t, size, code...)
	for n := range 32 {
		p.set(t, n, uint64(n)*0x9e3779b97f4a7c15)
	}
	b := make([]byte, size-16)
	for i := range b {
		b[i] = byte(i*37%255 + 1)
	}
	p.lay(t, 16, b)
	return p
}

// invalid are machines that New did not return.
func invalid(t *testing.T) []*rvstep.Machine {
	t.Helper()
	shared := *filled(t, 64, word(t, api.Rv{Op: api.RvAddi, Rd: 1, Imm: 1})).x
	return []*rvstep.Machine{nil, {}, &shared}
}

// P4.1

func TestNewIsAtTheBeginning(t *testing.T) {
	for _, size := range []int{16, 17, 64, 65536} {
		m, _ := mem.New(size)
		x, e := rvstep.New(m)
		if x == nil || e != api.OK {
			t.Fatal(size, x, e)
		}
		for n := range 32 {
			if v := x.Reg(n); v != 0 {
				t.Error(n, v)
			}
		}
		if x.Place() != base || x.Place() != api.CodeBase || x.Step() != api.EndOutOfCode {
			t.Error(x.Place())
		}
		if end, n := x.Run(5); end != api.EndOutOfCode || n != 0 {
			t.Error(end, n)
		}
	}
}

func TestNewRefusesWhatIsNoMemory(t *testing.T) {
	m, _ := mem.New(64)
	shared := *m
	for i, m := range []*mem.Mem{nil, {}, &shared} {
		if x, e := rvstep.New(m); x != nil || e != api.ErrNil {
			t.Error(i, x, e)
		}
	}
}

func TestMachinesHaveTheirOwnRegistersAndShareTheMemory(t *testing.T) {
	code := words(t, api.Rv{Op: api.RvSd, Rs2: 1, Imm: 24}, api.Rv{Op: api.RvLd, Rd: 2, Imm: 24})
	a := start(t, 64, code...)
	b, e := rvstep.New(a.memory)
	if e != api.OK || b.Load(code) != api.OK || b.Jump(base+4) != api.OK {
		t.Fatal(e)
	}
	a.set(t, 1, 77)
	if end := a.step(t); end != api.EndRan {
		t.Fatal(end)
	}
	if b.Reg(1) != 0 || b.Place() != base+4 {
		t.Error(b.Reg(1), b.Place())
	}
	if b.Step() != api.EndRan || b.Reg(2) != 77 || a.x.Reg(2) != 0 {
		t.Error(b.Reg(2), a.x.Reg(2))
	}
	a.memory.Store(24, 8, 78)
	b.Jump(base + 4)
	if b.Step() != api.EndRan || b.Reg(2) != 78 {
		t.Error(b.Reg(2))
	}
}

func TestLoadTakesUpToTheGreatest(t *testing.T) {
	add := word(t, api.Rv{Op: api.RvAddi, Rd: 1, Rs1: 1, Imm: 1})
	p := start(t, 64)
	for _, n := range []int{65536, 65535, 1, 0} {
		if e := p.x.Load(slices.Repeat([]uint32{add}, n)); e != api.OK {
			t.Fatal(n, e)
		}
		p.jump(t, base)
		p.set(t, 1, 0)
		if end, ran := p.x.Run(70000); end != api.EndOutOfCode || ran != n || p.x.Reg(1) != uint64(n) || p.x.Place() != base+4*uint64(n) {
			t.Error(n, end, ran, p.x.Reg(1), p.x.Place())
		}
	}
	if e := p.x.Load(nil); e != api.OK {
		t.Error(e)
	}
}

func TestLoadRefusedKeepsTheCode(t *testing.T) {
	p := filled(t, 64, words(t, api.Rv{Op: api.RvAddi, Rd: 1, Imm: 5}, api.Rv{Op: api.RvAddi, Rd: 2, Imm: 6})...)
	for _, n := range []int{65537, 65600, 131072, 1 << 20} {
		if e := p.x.Load(make([]uint32, n)); e != api.ErrLong {
			t.Error(n, e)
		}
		p.alike(t)
	}
	if p.step(t) != api.EndRan || p.step(t) != api.EndRan || p.step(t) != api.EndOutOfCode {
		t.Error("the code is another")
	}
}

func TestLoadReplacesTheCodeAndNothingElse(t *testing.T) {
	p := filled(t, 64, words(t, api.Rv{Op: api.RvAddi, Rd: 1, Imm: 5}, api.Rv{Op: api.RvAddi, Rd: 2, Imm: 6}, api.Rv{Op: api.RvEcall})...)
	if end, n := p.x.Run(9); end != api.EndCall || n != 2 {
		t.Fatal(end, n)
	}
	p.model.run(9)
	for _, code := range [][]uint32{words(t, api.Rv{Op: api.RvAddi, Rd: 1, Imm: 7}, api.Rv{Op: api.RvEcall}), {0}, {}, words(t, api.Rv{Op: api.RvLui, Rd: 9, Imm: 7})} {
		if e := p.x.Load(code); e != api.OK {
			t.Fatal(e)
		}
		p.model.code = code
		p.alike(t)
		p.step(t)
		for _, at := range []uint64{base, base + 4, base + 8} {
			p.jump(t, at)
			p.step(t)
		}
	}
}

func TestLoadLeavesAndForgetsItsArgument(t *testing.T) {
	add, call := word(t, api.Rv{Op: api.RvAddi, Rd: 1, Imm: 5}), word(t, api.Rv{Op: api.RvEcall})
	whole := []uint32{call, add, add, call, call}
	p := start(t, 64)
	if e := p.x.Load(whole[1:3]); e != api.OK {
		t.Fatal(e)
	}
	p.model.code = []uint32{add, add}
	p.step(t)
	whole[1], whole[2] = 0, 0
	if p.step(t) != api.EndRan || p.step(t) != api.EndOutOfCode {
		t.Error("the code is looked at later")
	}
	if !slices.Equal(whole, []uint32{call, 0, 0, call, call}) {
		t.Error(whole)
	}
}

func TestRegistersContainWhatIsSet(t *testing.T) {
	p := start(t, 64)
	for _, v := range edges() {
		for n := range 32 {
			p.set(t, n, v+uint64(n))
			p.alike(t)
		}
	}
	if p.x.Reg(0) != 0 {
		t.Error(p.x.Reg(0))
	}
}

func TestWhatIsNoRegister(t *testing.T) {
	p := filled(t, 64)
	for _, n := range []int{math.MinInt, -1 << 32, -256, -32, -1, 32, 33, 63, 64, 256, 1 << 32, 1<<32 + 1, math.MaxInt} {
		if e := p.x.Set(n, 7); e != api.ErrArg {
			t.Error(n, e)
		}
		if v := p.x.Reg(n); v != 0 {
			t.Error(n, v)
		}
		p.alike(t)
	}
}

func TestJumpGoesAnywhere(t *testing.T) {
	p := filled(t, 64, word(t, api.Rv{Op: api.RvEcall}))
	for _, at := range append(edges(), base, base+1, base+4, base-4) {
		p.jump(t, at)
		p.alike(t)
	}
}

func TestInvalidMachines(t *testing.T) {
	for i, x := range invalid(t) {
		if e := x.Load(nil); e != api.ErrNil {
			t.Error(i, "Load", e)
		}
		if e := x.Load(make([]uint32, 65537)); e != api.ErrNil {
			t.Error(i, "Load", e)
		}
		for _, n := range []int{-1, 0, 1, 31, 32} {
			if v, e := x.Reg(n), x.Set(n, 5); v != 0 || e != api.ErrNil {
				t.Error(i, n, v, e)
			}
		}
		if at, e := x.Place(), x.Jump(base); at != 0 || e != api.ErrNil {
			t.Error(i, at, e)
		}
		if end := x.Step(); end != api.EndOutOfCode {
			t.Error(i, end)
		}
		for _, most := range []int{1, 2, 1000} {
			if end, n := x.Run(most); end != api.EndOutOfCode || n != 0 {
				t.Error(i, most, end, n)
			}
		}
		for _, most := range []int{0, -1, math.MinInt} {
			if end, n := x.Run(most); end != api.EndRan || n != 0 {
				t.Error(i, most, end, n)
			}
		}
	}
}

func TestInvalidCopyLeavesItsMachine(t *testing.T) {
	p := filled(t, 64, word(t, api.Rv{Op: api.RvSd, Rs2: 1, Imm: 16}))
	shared := *p.x
	shared.Set(1, 3)
	shared.Step()
	shared.Load(nil)
	p.alike(t)
	p.step(t)
}

// P4.2

func TestPlacesWithoutCode(t *testing.T) {
	call := word(t, api.Rv{Op: api.RvEcall})
	for _, n := range []int{0, 1, 3} {
		p := filled(t, 64, slices.Repeat([]uint32{call}, n)...)
		end := base + 4*uint64(n)
		places := append(edges(), end, end+1, end+2, end+3, end+4, 2*base, base+1<<18, base+1<<34, base+1<<63, 1<<62, 1<<62+base, 1<<63+base, 1<<34, 16, 64, math.MaxUint64-3)
		for d := range uint64(20) {
			places = append(places, base-d, base+d)
		}
		for _, at := range places {
			want := api.EndCall
			switch {
			case at%4 != 0:
				want = api.EndMisaligned
			case at < base || at >= end:
				want = api.EndOutOfCode
			}
			p.jump(t, at)
			if got := p.step(t); got != want {
				t.Errorf("%d words, at %#x: %d, not %d", n, at, got, want)
			}
		}
	}
}

func TestWhatIsNoInstruction(t *testing.T) {
	for _, w := range []uint32{0, 1<<32 - 1, 116, 0x0000000f, 0x0000100f, 0x00100073, 0x30200073, 0x10500073, 0x000000f3, 0x00001067, 0x00002063, 0x00007003, 0x00004023, 0x04001013, 0x0200101b, 0x60000033, 0x0200103b, 0x4501} {
		p := filled(t, 64, w, word(t, api.Rv{Op: api.RvEcall}))
		for range 3 {
			if end := p.step(t); end != api.EndIllegal {
				t.Errorf("%#x: %d", w, end)
			}
		}
	}
}

// operations are those of a form, or of some.
func operations(forms string) []int {
	var out []int
	for op := api.RvLui; op <= api.RvEcall; op++ {
		if strings.Contains(forms, rvcode.Form(op)) {
			out = append(out, op)
		}
	}
	return out
}

// memoryless are the operations that neither load nor store.
func memoryless(forms string) []int {
	return slices.DeleteFunc(operations(forms), func(op int) bool {
		n, _, _ := access(rvcode.Name(op))
		return n > 0
	})
}

func TestOperationsOfRegistersAndImmediates(t *testing.T) {
	for _, op := range memoryless("RIXYBUJE") {
		for _, n := range immediates(rvcode.Form(op)) {
			for _, r := range picks() {
				p := filled(t, 16, 0, word(t, formed(op, r, n)))
				for _, v := range []uint64{0, 5, base, 1<<63 + 9, math.MaxUint64} {
					p.set(t, r[1], v)
					p.jump(t, base+4)
					if end := p.step(t); (end == api.EndRan) != (op != api.RvEcall) {
						t.Fatal(rvcode.Name(op), end)
					}
				}
			}
		}
	}
}

func TestOperationsOfTwoWords(t *testing.T) {
	for _, op := range operations("RB") {
		p := filled(t, 16, 0, 0, word(t, formed(op, [3]int{3, 1, 2}, 0)))
		if rvcode.Form(op) == "B" {
			p = filled(t, 16, 0, 0, word(t, formed(op, [3]int{3, 1, 2}, -8)))
		}
		for _, a := range edges() {
			for _, b := range edges() {
				p.set(t, 1, a)
				p.set(t, 2, b)
				p.jump(t, base+8)
				if end := p.step(t); end != api.EndRan {
					t.Fatal(rvcode.Name(op), a, b, end)
				}
			}
		}
	}
}

func TestOperationsOfAWordAndANumber(t *testing.T) {
	for _, op := range memoryless("IXY") {
		for _, n := range immediates(rvcode.Form(op)) {
			p := filled(t, 16, word(t, formed(op, [3]int{3, 1, 0}, n)))
			for _, a := range edges() {
				p.set(t, 1, a)
				p.jump(t, base)
				if end := p.step(t); end != api.EndRan {
					t.Fatal(rvcode.Name(op), a, n, end)
				}
			}
		}
	}
}

func TestLoadsAndStoresAtEachPlace(t *testing.T) {
	const size = 48
	for _, op := range operations("IS") {
		n, _, _ := access(rvcode.Name(op))
		if n == 0 {
			continue
		}
		for _, imm := range []int{0, 1, -1, 7, -2048, 2047} {
			for at := uint64(0); at < size+20; at++ {
				p := filled(t, size, word(t, formed(op, [3]int{3, 1, 2}, imm)))
				for _, to := range []uint64{at, -at, at + 1<<32, at + 1<<63} {
					p.set(t, 1, to-uint64(imm))
					p.jump(t, base)
					if end := p.step(t); (end == api.EndRan) != p.model.fits(to, n) || end != api.EndRan && end != api.EndAccess {
						t.Fatal(rvcode.Name(op), to, end)
					}
				}
			}
		}
	}
}

func TestLoadsExtend(t *testing.T) {
	for _, op := range operations("I") {
		n, _, _ := access(rvcode.Name(op))
		if n == 0 {
			continue
		}
		for _, r := range picks() {
			p := filled(t, 64, word(t, formed(op, r, 40)))
			for _, v := range []byte{0, 1, 127, 128, 255} {
				p.lay(t, 24, slices.Repeat([]byte{v}, 40))
				p.set(t, r[1], 1)
				p.jump(t, base)
				if end := p.step(t); end != api.EndRan {
					t.Fatal(rvcode.Name(op), end)
				}
			}
		}
	}
}

func TestStoresOfAndByTheSameRegister(t *testing.T) {
	for _, op := range operations("S") {
		for _, r := range picks() {
			p := filled(t, 64, word(t, formed(op, r, 23)))
			p.set(t, r[1], 11)
			if end := p.step(t); end != api.EndRan {
				t.Fatal(rvcode.Name(op), r, end)
			}
		}
	}
}

func TestAccessThatDoesNotFitIsSeenForRegister0Too(t *testing.T) {
	for _, op := range []int{api.RvLb, api.RvLhu, api.RvLd} {
		for _, at := range []int{-1, 0, 15, 64, 2047} {
			p := filled(t, 64, word(t, api.Rv{Op: op, Imm: at}))
			if end := p.step(t); end != api.EndAccess {
				t.Error(rvcode.Name(op), at, end)
			}
		}
	}
}

func TestLinksAndTheirRegister(t *testing.T) {
	for _, c := range []struct {
		i        api.Rv
		s        uint64
		to, link uint64
	}{
		{api.Rv{Op: api.RvJalr, Rd: 1, Rs1: 1, Imm: 1}, 100, 100, base + 4},
		{api.Rv{Op: api.RvJalr, Rd: 1, Rs1: 1, Imm: 2}, 101, 102, base + 4},
		{api.Rv{Op: api.RvJalr, Rd: 1, Rs1: 1, Imm: -1}, 0, math.MaxUint64 - 1, base + 4},
		{api.Rv{Op: api.RvJalr, Rd: 1, Rs1: 1, Imm: 5}, math.MaxUint64, 4, base + 4},
		{api.Rv{Op: api.RvJalr, Rs1: 1, Imm: 3}, base, base + 2, base},
		{api.Rv{Op: api.RvJal, Rd: 1, Imm: -2}, 9, base - 2, base + 4},
		{api.Rv{Op: api.RvJal, Imm: 0}, 9, base, 9},
	} {
		p := start(t, 16, word(t, c.i))
		p.set(t, 1, c.s)
		if end := p.step(t); end != api.EndRan || p.x.Place() != c.to || p.x.Reg(1) != c.link {
			t.Errorf("%v: %d %#x %#x", c.i, end, p.x.Place(), p.x.Reg(1))
		}
	}
}

func TestUpperNumbers(t *testing.T) {
	for _, c := range []struct {
		op, imm int
		want    uint64
	}{
		{api.RvLui, -1, 0xfffffffffffff000}, {api.RvLui, 1, 4096}, {api.RvLui, 524287, 0x7ffff000}, {api.RvLui, -524288, 0xffffffff80000000},
		{api.RvAuipc, -1, base + 4 - 4096}, {api.RvAuipc, 0, base + 4}, {api.RvAuipc, 524287, base + 4 + 0x7ffff000}, {api.RvAuipc, -524288, base + 4 - 1<<31},
	} {
		p := start(t, 16, 0, word(t, api.Rv{Op: c.op, Rd: 7, Imm: c.imm}))
		p.jump(t, base+4)
		if end := p.step(t); end != api.EndRan || p.x.Reg(7) != c.want {
			t.Errorf("%v: %d %#x", c, end, p.x.Reg(7))
		}
	}
}

// P4.3

func program(by int) []api.Rv {
	return []api.Rv{{Op: api.RvAddi, Rd: 1, Imm: 5}, {Op: api.RvSlli, Rd: 2, Rs1: 1, Imm: by}, {Op: api.RvSd, Rs1: 2, Rs2: 1}, {Op: api.RvLb, Rd: 3, Rs1: 2}, {Op: api.RvBeq, Rs1: 1, Rs2: 3, Imm: -8}, {Op: api.RvEcall}}
}

func TestExamples(t *testing.T) {
	p := start(t, 64, words(t, program(4)...)...)
	if end, n := p.x.Run(3); end != api.EndAccess || n != 2 || p.x.Reg(1) != 5 || p.x.Reg(2) != 80 {
		t.Error(end, n)
	}
	if v, e := p.memory.Load(80, 8); v != 0 || e != api.ErrAccess {
		t.Error(v, e)
	}
	p = start(t, 64, words(t, program(2)...)...)
	if end, n := p.x.Run(4); end != api.EndRan || n != 4 {
		t.Error(end, n)
	}
	if v, e := p.memory.Load(20, 1); v != 5 || e != api.OK || p.x.Reg(3) != 5 || p.x.Step() != api.EndRan || p.x.Place() != base+8 {
		t.Error(v, e, p.x.Reg(3), p.x.Place())
	}
	if a, v, b := p.x.Set(0, 7), p.x.Reg(0), p.x.Set(32, 0); a != api.OK || v != 0 || b != api.ErrArg {
		t.Error(a, v, b)
	}
	if a, b, c, d := p.x.Jump(2), p.x.Step(), p.x.Jump(4), p.x.Step(); a != api.OK || b != api.EndMisaligned || c != api.OK || d != api.EndOutOfCode {
		t.Error(a, b, c, d)
	}
	if end, n := p.x.Run(0); end != api.EndRan || n != 0 {
		t.Error(end, n)
	}
}

func TestRunCountsWhatRan(t *testing.T) {
	add := word(t, api.Rv{Op: api.RvAddi, Rd: 1, Rs1: 1, Imm: 1})
	for _, c := range []struct {
		last api.Rv
		want int
	}{
		{api.Rv{Op: api.RvEcall}, api.EndCall},
		{api.Rv{Op: api.RvLb, Imm: 3}, api.EndAccess},
		{api.Rv{Op: api.RvSd, Imm: 60}, api.EndAccess},
		{api.Rv{}, api.EndIllegal},
		{api.Rv{Op: api.RvAddi}, api.EndOutOfCode},
		{api.Rv{Op: api.RvJal, Imm: 2}, api.EndMisaligned},
	} {
		code := []uint32{add, add, add, add, 0}
		ran := 4
		if c.last.Op != 0 {
			code[4] = word(t, c.last)
		}
		if c.want == api.EndOutOfCode || c.want == api.EndMisaligned {
			ran = 5
		}
		for _, most := range []int{math.MinInt, -5, -1, 0, 1, 2, 3, 4, 5, 6, 7, 100, math.MaxInt} {
			p := start(t, 64, code...)
			want, n := api.EndRan, max(most, 0)
			if most > ran {
				want, n = c.want, ran
			}
			if got, m := p.x.Run(most); got != want || m != n {
				t.Errorf("%v: Run(%d): %d %d, not %d %d", c, most, got, m, want, n)
			}
			if v := p.x.Reg(1); v != uint64(min(n, 4)) {
				t.Error(c, most, v)
			}
			p.model.run(most)
			p.alike(t)
		}
	}
}

func TestRunOfALoop(t *testing.T) {
	p := start(t, 16, words(t, api.Rv{Op: api.RvAddi, Rd: 1, Rs1: 1, Imm: 1}, api.Rv{Op: api.RvJal, Imm: -4})...)
	if end, n := p.x.Run(1000001); end != api.EndRan || n != 1000001 || p.x.Reg(1) != 500001 || p.x.Place() != base+4 {
		t.Error(end, n, p.x.Reg(1), p.x.Place())
	}
}

// P4.4, P4.5

// jumble is code of all operations, the registers and immediates of which keep some accesses in memory and some jumps in the code.
func jumble(t *testing.T, x *mixed, size int) []uint32 {
	var out []uint32
	for range size {
		op := 1 + x.below(63)
		some := immediates(rvcode.Form(op))
		i := formed(op, [3]int{x.below(8), x.below(8), x.below(8)}, some[x.below(len(some))])
		n, _, _ := access(rvcode.Name(op))
		switch form := rvcode.Form(op); {
		case n > 0:
			i.Imm = 14 + x.below(50)
			if x.below(4) > 0 {
				i.Rs1 = 0
			}
		case form == "B" || form == "J":
			i.Imm = 4*x.below(9) - 8
		case op == api.RvJalr || op == api.RvEcall:
			i = api.Rv{Op: api.RvAuipc, Rd: x.below(8)}
			if x.below(2) == 0 {
				i = api.Rv{Op: api.RvJalr, Rd: x.below(8), Rs1: x.below(8), Imm: 4 * x.below(6)}
			}
		}
		out = append(out, word(t, i))
	}
	return out
}

// differ is how many registers have other contents.
func differ(a, b [32]uint64) int {
	n := 0
	for i := range a {
		if a[i] != b[i] {
			n++
		}
	}
	return n
}

// storesOnly checks what a step may have changed in memory.
func storesOnly(t *testing.T, p *pair, i api.Rv, ran bool, address uint64, before []byte) {
	t.Helper()
	after := p.bytes(t)
	n, stores, _ := access(rvcode.Name(i.Op))
	for k := range after {
		at := uint64(k + 16)
		if after[k] != before[k] && !(ran && stores && at >= address && at < address+uint64(n)) {
			t.Fatalf("%v changes the byte at %d", i, at)
		}
	}
}

func TestStepsChangeLittle(t *testing.T) {
	x := mixed(4)
	ends := map[int]int{}
	for range 400 {
		p := filled(t, 64, jumble(t, &x, 30)...)
		for range 100 {
			registers, place, memory := p.registers(), p.x.Place(), p.bytes(t)
			i := api.Rv{}
			if n := (place - base) / 4; place%4 == 0 && n < 30 {
				i, _ = rvcode.Decode(p.model.code[n])
			}
			end := p.step(t)
			ends[end]++
			if p.x.Reg(0) != 0 || differ(registers, p.registers()) > 1 {
				t.Fatal(i, p.registers())
			}
			storesOnly(t, p, i, end == api.EndRan, registers[i.Rs1]+uint64(i.Imm), memory)
			if end == api.EndRan {
				continue
			}
			if registers != p.registers() || place != p.x.Place() || !slices.Equal(memory, p.bytes(t)) {
				t.Fatal(i, end, "changes something")
			}
			for range 3 {
				if again := p.x.Step(); again != end {
					t.Fatal(i, end, again)
				}
			}
			if again, n := p.x.Run(5); again != end || n != 0 {
				t.Fatal(i, end, again, n)
			}
			p.alike(t)
			break
		}
	}
	for _, end := range []int{api.EndRan, api.EndMisaligned, api.EndOutOfCode, api.EndAccess} {
		if ends[end] < 10 {
			t.Error("how steps ended:", ends)
		}
	}
}

func TestWhatEndedRunsAgainWhenSomethingIsChanged(t *testing.T) {
	p := start(t, 64, words(t, api.Rv{Op: api.RvLb, Rd: 2, Rs1: 1}, api.Rv{Op: api.RvEcall})...)
	if end := p.step(t); end != api.EndAccess {
		t.Error(end)
	}
	p.set(t, 1, 16)
	if p.step(t) != api.EndRan || p.step(t) != api.EndCall {
		t.Error("what did not fit does not run")
	}
	p.jump(t, base)
	if end := p.step(t); end != api.EndRan {
		t.Error(end)
	}
}

func TestStepsAndMoreStepsAreBothTogether(t *testing.T) {
	x := mixed(5)
	for range 300 {
		code := jumble(t, &x, 30)
		a, b := x.below(20), x.below(40)
		p, q := filled(t, 64, code...), filled(t, 64, code...)
		end, n := p.x.Run(a + b)
		first, m := q.x.Run(a)
		last, k := q.x.Run(b)
		if m+k != n || last != end && b > 0 || first != end && b == 0 {
			t.Fatalf("%d and %d: %d %d, %d %d, %d %d", a, b, end, n, first, m, last, k)
		}
		if p.registers() != q.registers() || p.x.Place() != q.x.Place() || !p.memory.Same(q.memory) {
			t.Fatal(a, b, "differ")
		}
		r := filled(t, 64, code...)
		for range n {
			if end := r.step(t); end != api.EndRan {
				t.Fatal(end)
			}
		}
		if r.registers() != p.registers() || r.x.Place() != p.x.Place() || !r.memory.Same(p.memory) {
			t.Fatal(n, "steps differ")
		}
	}
}
