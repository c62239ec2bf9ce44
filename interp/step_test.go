package interp_test

import (
	"math"
	"reflect"
	"slices"
	"testing"

	"twinshaft/api"
	"twinshaft/interp"
	"twinshaft/space"
)

// at is where the instruction stands that is tried: after four that write the registers.
const at = 40

// area is how many bytes of area a function has in which one is tried.
const area = 24

// around is a module in which an instruction is tried; there is a second function, which takes two registers.
func around(i api.Ins) api.Module {
	var l []api.Ins
	for r := range 4 {
		l = append(l, api.Ins{Op: api.OpConst, A: r})
	}
	return api.Module{Data: []byte{200, 201, 202}, Funcs: []api.Func{
		{Regs: 4, Area: area, Code: append(l, i, api.Ins{Op: api.OpExit})},
		{Params: 2, Regs: 3, Code: []api.Ins{{Op: api.OpRet, A: 1}}},
	}}
}

// ready is a space at an instruction, with contents of its registers, and its interpreter.
func ready(t *testing.T, i api.Ins, contents [4]uint64) (*interp.Interp, *space.Space) {
	t.Helper()
	m := around(i)
	s := fresh(t, m, 256, []byte{65}, 100)
	for r, v := range contents {
		if e := s.Set(r, v); e != api.OK {
			t.Fatal(e)
		}
	}
	s.Go(at)
	return of(t, m), s
}

// did is a space after a step that did an instruction.
func did(t *testing.T, i api.Ins, contents [4]uint64) *space.Space {
	t.Helper()
	x, s := ready(t, i, contents)
	if e := x.Step(s); e != api.OK {
		t.Fatal(i, e)
	}
	if s.Fuel() != 99 {
		t.Fatal(i, "leaves the fuel", s.Fuel())
	}
	return s
}

// gives checks that an instruction does no more than to write a register, and to go on.
func gives(t *testing.T, i api.Ins, contents [4]uint64, want uint64) {
	t.Helper()
	_, expected := ready(t, i, contents)
	expected.Set(i.A, want)
	expected.Go(at + length(i))
	expected.Burn(1)
	if s := did(t, i, contents); !s.Same(expected) {
		got, _ := s.Get(i.A)
		t.Error(i, contents, "gives", got, "not", want, looked(s))
	}
}

// ends checks that an instruction does no more than to end the run.
func ends(t *testing.T, i api.Ins, contents [4]uint64, want api.Ending) {
	t.Helper()
	_, expected := ready(t, i, contents)
	expected.Burn(1)
	expected.Stop(want)
	if s := did(t, i, contents); !s.Same(expected) {
		t.Error(i, contents, "does not end with", want, "but", looked(s))
	}
}

// words are such as lie near edges.
func words() []uint64 {
	out := []uint64{10, 100, 1_000_003, 0x0123456789abcdef, 0xfedcba9876543210}
	for _, bit := range []int{0, 6, 7, 8, 15, 16, 31, 32, 63} {
		one := uint64(1) << bit
		out = append(out, one-1, one, one+1, -one, -one-1)
	}
	return out
}

// P16.2: what is done

func TestPlain(t *testing.T) {
	for _, v := range words() {
		gives(t, api.Ins{Op: api.OpConst, A: 2, N: int(v)}, [4]uint64{1, 2, 3, 4}, v)
		gives(t, api.Ins{Op: api.OpMov, A: 3, B: 1}, [4]uint64{7, v, 8, 9}, v)
		gives(t, api.Ins{Op: api.OpMov, A: 1, B: 1}, [4]uint64{7, v, 8, 9}, v)
		gives(t, api.Ins{Op: api.OpMov, A: 0, B: 3}, [4]uint64{7, 6, 8, v}, v)
		// A register that is read, but not written, is written again: it stays.
		contents := [4]uint64{v, 1, 2, 3}
		_, expected := ready(t, api.Ins{}, contents)
		expected.Go(at + 1)
		expected.Burn(1)
		if s := did(t, api.Ins{}, contents); !s.Same(expected) {
			t.Error("nop", looked(s))
		}
	}
	gives(t, api.Ins{Op: api.OpConst, N: math.MinInt}, [4]uint64{}, 1<<63)
	gives(t, api.Ins{Op: api.OpConst, N: -1}, [4]uint64{}, 1<<64-1)
}

func TestOfTwoWords(t *testing.T) {
	for op := api.OpAdd; op <= api.OpNe; op++ {
		divides := op >= api.OpDiv && op <= api.OpRemu
		for _, v := range words() {
			for _, w := range words() {
				i, contents := api.Ins{Op: op, A: 3, B: 1, C: 2}, [4]uint64{5, v, w, 6}
				if w == 0 && divides {
					ends(t, i, contents, api.Ending{Kind: api.EndTrap, Code: api.TrapDiv})
				} else {
					gives(t, i, contents, computed(op, v, w))
				}
			}
		}
	}
}

func TestOfSameRegisters(t *testing.T) {
	contents := [4]uint64{1<<63 + 5, 1<<64 - 3, 77, 12}
	for op := api.OpAdd; op <= api.OpNe; op++ {
		for a := range 4 {
			for b := range 4 {
				for c := range 4 {
					gives(t, api.Ins{Op: op, A: a, B: b, C: c}, contents, computed(op, contents[b], contents[c]))
				}
			}
		}
	}
}

// TestWrittenOut has some results that are not computed here.
func TestWrittenOut(t *testing.T) {
	const all, high = 1<<64 - 1, 1 << 63
	for _, x := range []struct {
		op         int
		v, w, want uint64
	}{
		{api.OpAdd, all, 2, 1}, {api.OpSub, 1, 2, all}, {api.OpMul, all, all, 1}, {api.OpMul, high, 2, 0},
		{api.OpDiv, all - 6, 2, all - 2}, {api.OpDiv, high, all, high}, {api.OpDivu, all, 2, high - 1}, {api.OpDivu, 0, 5, 0},
		{api.OpRem, all - 6, 2, all}, {api.OpRem, high, all, 0}, {api.OpRemu, all, 2, 1}, {api.OpRem, 7, all - 1, 1},
		{api.OpAnd, 12, 10, 8}, {api.OpOr, 12, 10, 14}, {api.OpXor, 12, 10, 6},
		{api.OpShl, 1, 65, 2}, {api.OpShr, high, 63, 1}, {api.OpSar, high, 63, all}, {api.OpShr, all, 64, all}, {api.OpSar, high, 128, high},
		{api.OpLt, all, 0, 1}, {api.OpLtu, all, 0, 0}, {api.OpLt, 0, 0, 0}, {api.OpLtu, 0, 1, 1}, {api.OpEq, 3, 3, 1}, {api.OpEq, 3, 4, 0}, {api.OpNe, 3, 3, 0}, {api.OpNe, 3, 4, 1},
	} {
		gives(t, api.Ins{Op: x.op, A: 2, B: 0, C: 1}, [4]uint64{x.v, x.w, 99, 98}, x.want)
	}
	for _, x := range []struct {
		kind    int
		v, want uint64
	}{
		{api.KindS8, 0x1ff, all}, {api.KindU8, 0x1ff, 255}, {api.KindS8, 0x17f, 127}, {api.KindS16, 0x18000, all - 0x7fff}, {api.KindU16, 0x18000, 0x8000},
		{api.KindS32, 1 << 31, all - 1<<31 + 1}, {api.KindU32, 1<<32 + 1<<31, 1 << 31}, {api.KindS32, 1 << 32, 0},
	} {
		gives(t, api.Ins{Op: api.OpExt, A: 2, B: 1, N: x.kind}, [4]uint64{5, x.v, 6, 7}, x.want)
	}
}

func TestExt(t *testing.T) {
	for kind := api.KindS8; kind <= api.KindU32; kind++ {
		for _, v := range words() {
			gives(t, api.Ins{Op: api.OpExt, A: 0, B: 2, N: kind}, [4]uint64{5, 6, v, 7}, extended(kind, v))
			gives(t, api.Ins{Op: api.OpExt, A: 2, B: 2, N: kind}, [4]uint64{5, 6, v, 7}, extended(kind, v))
		}
	}
}

// reaches are places near the edges of a memory of 256 bytes, in which the frame of four registers begins at 192.
func reaches() []uint64 {
	out := []uint64{0, 1, 1<<64 - 1, 1<<64 - 8, 1 << 63, 1<<32 + 100, 300, 65_536}
	for place := uint64(8); place < 24; place++ {
		out = append(out, place, place+184, place+236)
	}
	return out
}

func TestLoad(t *testing.T) {
	reach := api.Ending{Kind: api.EndTrap, Code: api.TrapReach}
	loaded, trapped := 0, 0
	for kind := api.KindS8; kind <= api.KindAll; kind++ {
		for _, place := range reaches() {
			for a := range 3 {
				i, contents := api.Ins{Op: api.OpLoad, A: a, B: 1, N: kind}, [4]uint64{0x8081828384858687, place, 0xf1f2f3f4f5f6f7f8, 0x0102030405060708}
				m := modelOf(around(i), 256, nil, 9)
				for r, v := range contents {
					m.set(r, v)
				}
				if !m.fits(place, sizeOf(kind)) {
					ends(t, i, contents, reach)
					trapped++
					continue
				}
				gives(t, i, contents, extended(kind, m.number(int(place), sizeOf(kind))))
				loaded++
			}
		}
	}
	if loaded < 500 || trapped < 300 {
		t.Error(loaded, trapped)
	}
}

func TestLoadOfData(t *testing.T) {
	for kind, want := range map[int]uint64{
		api.KindS8: 1<<64 - 56, api.KindU8: 200, api.KindS16: 1<<64 - 1<<16 + 200 + 201<<8, api.KindU16: 200 + 201<<8,
		api.KindS32: 200 + 201<<8 + 202<<16, api.KindU32: 200 + 201<<8 + 202<<16, api.KindAll: 200 + 201<<8 + 202<<16,
	} {
		gives(t, api.Ins{Op: api.OpLoad, A: 0, B: 3, N: kind}, [4]uint64{9, 9, 9, 16}, want)
	}
}

func TestStore(t *testing.T) {
	reach := api.Ending{Kind: api.EndTrap, Code: api.TrapReach}
	for _, size := range []int{1, 2, 4, 8} {
		for _, place := range reaches() {
			for b := range 2 {
				i, contents := api.Ins{Op: api.OpStore, A: 1, B: b, N: size}, [4]uint64{0x8081828384858687, place, 0xf1f2f3f4f5f6f7f8, 0x0102030405060708}
				_, expected := ready(t, i, contents)
				if expected.Memory().Store(place, size, contents[b]) != api.OK {
					ends(t, i, contents, reach)
					continue
				}
				expected.Go(at + 4)
				expected.Burn(1)
				if s := did(t, i, contents); !s.Same(expected) {
					t.Error(i, place, looked(s))
				}
			}
		}
	}
}

func TestPlaces(t *testing.T) {
	for n := range area + 1 {
		gives(t, api.Ins{Op: api.OpLea, A: 1, N: n}, [4]uint64{1, 2, 3, 4}, uint64(192+32+n))
	}
	for n := range 4 {
		gives(t, api.Ins{Op: api.OpData, A: 1, N: n}, [4]uint64{1, 2, 3, 4}, uint64(16+n))
	}
	// Of the frame of another function, which is called twice.
	m := api.Module{Funcs: []api.Func{
		{Regs: 1, Code: []api.Ins{{Op: api.OpCall, N: 1}, {Op: api.OpExit}}},
		{Regs: 3, Area: 9, Code: []api.Ins{{Op: api.OpLea, A: 2, N: 9}, {Op: api.OpCall, A: 1, N: 1}, {Op: api.OpRet, A: 2}}},
	}}
	x, s := of(t, m), fresh(t, m, 256, nil, 100)
	for _, begin := range []uint64{192, 144} {
		x.Run(s, 2)
		if v, e := s.Get(2); v != begin+24+9 || e != api.OK || s.At() != begin {
			t.Error(v, e, s.At(), "not in the frame at", begin)
		}
	}
}

func TestBranches(t *testing.T) {
	for _, x := range []struct {
		op   int
		v    uint64
		goes bool
	}{
		{api.OpJmp, 0, true}, {api.OpJmp, 1, true},
		{api.OpBrz, 0, true}, {api.OpBrz, 1, false}, {api.OpBrz, 1 << 63, false}, {api.OpBrz, 1 << 32, false}, {api.OpBrz, 1<<64 - 1, false},
		{api.OpBrnz, 0, false}, {api.OpBrnz, 1, true}, {api.OpBrnz, 1 << 63, true}, {api.OpBrnz, 1 << 32, true}, {api.OpBrnz, 1<<64 - 1, true},
	} {
		for _, target := range []int{0, 30, at} {
			i, contents, want := api.Ins{Op: x.op, A: 2, N: target}, [4]uint64{6, 7, x.v, 8}, at+4
			if x.op == api.OpJmp {
				i.A = 0
			}
			if x.goes {
				want = target
			}
			_, expected := ready(t, i, contents)
			expected.Go(want)
			expected.Burn(1)
			if s := did(t, i, contents); !s.Same(expected) {
				t.Error(i, contents, "goes to", s.Place(), "not", want)
			}
		}
	}
}

func TestCall(t *testing.T) {
	contents := [4]uint64{10, 11, 12, 13}
	for a := range 4 {
		for b := range 4 {
			for result := range 4 {
				i := api.Ins{Op: api.OpCall, A: result, N: 1, Args: []int{a, b}}
				x, s := ready(t, i, contents)
				_, expected := ready(t, i, contents)
				expected.Burn(1)
				expected.Call(1, []int{a, b}, result, at+6)
				if e := x.Step(s); e != api.OK || !s.Same(expected) || x.Calls(1) != 1 || x.Calls(0) != 0 {
					t.Error(i, e, looked(s), x.Calls(0), x.Calls(1))
				}
				if first, _ := s.Get(0); first != contents[a] || s.Func() != 1 || s.Place() != 0 || s.At() != 160 {
					t.Error(i, looked(s))
				}
				expected.Burn(1)
				expected.Return(contents[b])
				if e := x.Step(s); e != api.OK || !s.Same(expected) {
					t.Error(i, e, looked(s))
				}
				if v, _ := s.Get(result); v != contents[b] || s.Place() != at+6 || s.Func() != 0 {
					t.Error(i, v, looked(s))
				}
			}
		}
	}
}

func TestEnds(t *testing.T) {
	for _, v := range words() {
		for r := range 4 {
			contents := [4]uint64{1, 2, 3, 4}
			contents[r] = v
			ends(t, api.Ins{Op: api.OpExit, A: r}, contents, api.Ending{Kind: api.EndExit, Code: int(v % 256)})
			ends(t, api.Ins{Op: api.OpRet, A: r}, contents, api.Ending{Kind: api.EndExit, Code: int(v % 256)})
		}
	}
}

// TestExitOfACallee ends the run, whoever called.
func TestExitOfACallee(t *testing.T) {
	m := calling()
	m.Funcs[1].Code[0].Op = api.OpExit
	x, s := of(t, m), fresh(t, m, 64, nil, 9)
	if n, e := x.Run(s, 9); n != 3 || e != api.OK || s.Depth() != 1 || s.Func() != 1 || s.Outcome().End != (api.Ending{Kind: api.EndExit, Code: 44}) {
		t.Error(n, e, looked(s))
	}
}

func TestTape(t *testing.T) {
	for _, v := range words() {
		i, contents := api.Ins{Op: api.OpPutb, A: 2}, [4]uint64{1, 2, v, 4}
		_, expected := ready(t, i, contents)
		expected.Putb(int(v % 256))
		expected.Go(at + 2)
		expected.Burn(1)
		if s := did(t, i, contents); !s.Same(expected) {
			t.Error(i, v, looked(s))
		}
	}
	i := api.Ins{Op: api.OpGetb, A: 3}
	x, s := ready(t, i, [4]uint64{1, 2, 3, 4})
	for n, want := range []uint64{65, 1<<64 - 1, 1<<64 - 1} {
		_, expected := ready(t, i, [4]uint64{1, 2, 3, want})
		for range n + 1 {
			expected.Getb()
		}
		expected.Go(at + 2)
		expected.Burn(n + 1)
		s.Go(at)
		if e := x.Step(s); e != api.OK || !s.Same(expected) {
			t.Error(n, e, looked(s))
		}
	}
}

func TestFullTape(t *testing.T) {
	for _, op := range []int{api.OpGetb, api.OpPutb} {
		x, s := ready(t, api.Ins{Op: op, A: 1}, [4]uint64{1, 2, 3, 4})
		for range 99_999 {
			s.Putb(7)
		}
		if e := x.Step(s); e != api.OK || s.Place() != at+2 {
			t.Error(op, e, s.Place())
		}
		s.Go(at)
		before := looked(s)
		if len(before.outcome.Deeds) != 100_000 {
			t.Fatal(len(before.outcome.Deeds))
		}
		before.fuel, before.ended, before.outcome.End.Kind = 98, true, api.EndFuel
		if e := x.Step(s); e != api.OK || !reflect.DeepEqual(looked(s), before) {
			t.Error(op, e, s.Fuel(), s.Place(), s.Outcome().End)
		}
	}
}

func TestNoFuel(t *testing.T) {
	for _, i := range []api.Ins{
		{}, {Op: api.OpConst, N: 5}, {Op: api.OpDiv, A: 1, B: 1, C: 0}, {Op: api.OpLoad, N: 1}, {Op: api.OpStore, N: 8}, {Op: api.OpJmp}, {Op: api.OpCall, N: 1, Args: []int{0, 0}},
		{Op: api.OpRet}, {Op: api.OpGetb}, {Op: api.OpPutb}, {Op: api.OpExit},
	} {
		x, s := ready(t, i, [4]uint64{})
		s.Burn(100)
		expected := s.Copy()
		expected.Stop(api.Ending{Kind: api.EndFuel})
		if e := x.Step(s); e != api.OK || !s.Same(expected) || x.Calls(1) != 0 {
			t.Error(i, e, looked(s), x.Calls(1))
		}
	}
}

// P16.2: what is refused

// refuses checks that a step is refused, and changes nothing.
func refuses(t *testing.T, what string, x *interp.Interp, s *space.Space, want api.Errno) {
	t.Helper()
	before := s.Copy()
	if e := x.Step(s); e != want {
		t.Error(what, "is", e, "not", want)
	}
	if n, e := x.Run(s, 0); n != 0 || e != api.OK {
		t.Error(what, "no steps:", n, e)
	}
	if n, e := x.Run(s, 5); n != 0 || e != want && want != api.ErrState || e != api.OK && want == api.ErrState {
		t.Error(what, "some steps:", n, e)
	}
	if !s.Same(before) {
		t.Error(what, "is changed")
	}
	for f := range 3 {
		if x.Calls(f) != 0 {
			t.Error(what, "is counted")
		}
	}
}

func TestInvalidSpaces(t *testing.T) {
	x, s := ready(t, api.Ins{}, [4]uint64{})
	copied := reflect.New(reflect.TypeOf(s).Elem())
	copied.Elem().Set(reflect.ValueOf(s).Elem())
	before := s.Copy()
	for n, s := range []*space.Space{nil, {}, copied.Interface().(*space.Space)} {
		if e := x.Step(s); e != api.ErrNil {
			t.Error(n, e)
		}
		for _, most := range []int{-1, 0, 1, 9} {
			if done, e := x.Run(s, most); done != 0 || e != api.ErrNil {
				t.Error(n, most, done, e)
			}
		}
	}
	if !s.Same(before) {
		t.Error("changed by way of a copied struct")
	}
}

func TestEndedSpaces(t *testing.T) {
	for _, e := range []api.Ending{{Kind: api.EndExit, Code: 3}, {Kind: api.EndTrap, Code: api.TrapDiv}, {Kind: api.EndStack}, {Kind: api.EndFuel}} {
		for _, place := range []int{at, at + 1, 4095} {
			x, s := ready(t, api.Ins{}, [4]uint64{})
			s.Go(place)
			s.Stop(e)
			refuses(t, "a space that has ended", x, s, api.ErrState)
		}
	}
	m := endless(0)
	refuses(t, "a space that never ran", of(t, m), fresh(t, m, 16, nil, 9), api.ErrState)
}

func TestNoInstruction(t *testing.T) {
	for _, place := range []int{1, 9, 39, 41, 43, 45, 46, 4095} {
		for _, fuel := range []int{0, 1, 100} {
			x, s := ready(t, api.Ins{Op: api.OpAdd}, [4]uint64{})
			s.Go(place)
			s.Burn(100 - fuel)
			refuses(t, "no instruction", x, s, api.ErrArg)
		}
	}
}

// TestOtherModules has spaces in which an instruction, or what it names, does not exist.
func TestOtherModules(t *testing.T) {
	few := one(3, api.Ins{Op: api.OpJmp})
	few.Funcs = append(few.Funcs, api.Func{Params: 2, Regs: 2, Code: few.Funcs[0].Code}, few.Funcs[0])
	for _, i := range []api.Ins{
		{Op: api.OpConst, A: 3}, {Op: api.OpMov, A: 3}, {Op: api.OpMov, B: 3}, {Op: api.OpAdd, A: 3}, {Op: api.OpAdd, B: 3}, {Op: api.OpAdd, C: 3},
		{Op: api.OpDiv, A: 3}, {Op: api.OpExt, A: 3, N: 1}, {Op: api.OpExt, B: 3, N: 1}, {Op: api.OpLoad, A: 3, N: 1}, {Op: api.OpLoad, B: 3, N: 1},
		{Op: api.OpStore, A: 3, N: 1}, {Op: api.OpStore, B: 3, N: 1}, {Op: api.OpLea, A: 3}, {Op: api.OpData, A: 3}, {Op: api.OpBrz, A: 3}, {Op: api.OpBrnz, A: 3},
		{Op: api.OpCall, A: 3, N: 1, Args: []int{0, 0}}, {Op: api.OpCall, N: 1, Args: []int{3, 0}}, {Op: api.OpCall, N: 1, Args: []int{0, 3}},
		{Op: api.OpRet, A: 3}, {Op: api.OpGetb, A: 3}, {Op: api.OpPutb, A: 3}, {Op: api.OpExit, A: 3},
	} {
		for _, fuel := range []int{0, 100} {
			s := fresh(t, few, 256, []byte{1}, fuel)
			s.Go(at)
			refuses(t, "a register that does not exist", of(t, around(i)), s, api.ErrArg)
		}
	}
	s := fresh(t, few, 256, nil, 100)
	s.Call(2, nil, 0, 0)
	refuses(t, "a function that does not exist", of(t, around(api.Ins{})), s, api.ErrArg)
}

// TestOtherCalls calls what a space's own module does not have so: whatever is answered, an error changes nothing.
func TestOtherCalls(t *testing.T) {
	x := of(t, around(api.Ins{Op: api.OpCall, N: 1, Args: []int{0, 0}}))
	plain := one(4, api.Ins{Op: api.OpJmp})
	three := plain
	three.Funcs = append(slices.Clone(plain.Funcs), api.Func{Params: 3, Regs: 3, Code: plain.Funcs[0].Code})
	for _, m := range []api.Module{plain, three} {
		for _, fuel := range []int{0, 100} {
			s := fresh(t, m, 256, nil, fuel)
			s.Go(at)
			before := s.Copy()
			if e := x.Step(s); e != api.OK && (!s.Same(before) || x.Calls(1) != 0) {
				t.Error(e, looked(s), x.Calls(1))
			}
		}
	}
}

// TestOtherMixed does steps of a module in spaces of another one: each ends, and an error changes nothing.
func TestOtherMixed(t *testing.T) {
	m := mixed(3)
	refused, done := 0, 0
	for range 2000 {
		x := of(t, m.module())
		s := fresh(t, m.module(), 16+16*m.below(30)+64, []byte{1, 2}, m.below(200))
		for range 60 {
			before := s.Copy()
			if x.Step(s) == api.OK {
				done++
				continue
			}
			if !s.Same(before) {
				t.Fatal("a step that is refused changes the space")
			}
			refused++
			s.Go(m.below(30))
		}
	}
	if refused < 10_000 || done < 10_000 {
		t.Error(refused, done)
	}
}
