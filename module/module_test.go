package module_test

import (
	"bytes"
	"math"
	"slices"
	"testing"

	"twinshaft/api"
	"twinshaft/code"
	"twinshaft/module"
)

func raw(n ...byte) []byte { return n }

func fault(e api.Errno, at int) api.Fault { return api.Fault{Err: e, At: at} }

// small is the chapter's module, and these are its bytes.
func small() api.Module {
	return api.Module{Funcs: []api.Func{{Regs: 1, Code: []api.Ins{{Op: api.OpGetb}, {Op: api.OpExit}}}}}
}

func smallBytes() []byte { return raw(84, 87, 1, 0, 0, 1, 0, 1, 0, 0, 4, 0, 30, 0, 32, 0) }

// of is a module of these functions, without data.
func of(f ...api.Func) api.Module { return api.Module{Funcs: f} }

// nops are so many instructions of one byte each.
func nops(many int) []api.Ins { return make([]api.Ins, many) }

// large is a module with something in each field, and its bytes written out by hand.
func large() (api.Module, []byte) {
	m := api.Module{
		Data: raw(9, 0, 255),
		Funcs: []api.Func{
			{Params: 2, Regs: 3, Area: 258, Code: []api.Ins{{Op: api.OpAdd, B: 1, C: 2}, {Op: api.OpLea, N: 258}, {Op: api.OpCall, A: 2, N: 63, Args: []int{1, 0, 1}}}},
			{},
			{Params: 8, Regs: 64, Area: 4096, Code: []api.Ins{{Op: api.OpConst, A: 63, N: -2}, {Op: api.OpJmp, N: 4095}}},
		},
	}
	return m, raw(84, 87, 1, 3, 0, 9, 0, 255, 3,
		2, 3, 2, 1, 15, 0, 3, 0, 1, 2, 23, 0, 2, 1, 28, 2, 63, 3, 1, 0, 1,
		0, 0, 0, 0, 0, 0,
		8, 64, 0, 16, 13, 0, 1, 63, 254, 255, 255, 255, 255, 255, 255, 255, 25, 255, 15)
}

// valid are modules at the edges of what is valid.
func valid() []api.Module {
	m, _ := large()
	return []api.Module{
		m, small(), of(api.Func{}), of(make([]api.Func, 64)...), {Data: make([]byte, 8192), Funcs: []api.Func{{}}}, {Data: []byte{}, Funcs: []api.Func{{Code: []api.Ins{}}}},
		of(api.Func{Regs: 64}), of(api.Func{Params: 8, Regs: 8}), of(api.Func{Params: 3, Regs: 3}), of(api.Func{Area: 4096}), of(api.Func{Code: nops(4096)}),
		of(api.Func{Code: append([]api.Ins{{Op: api.OpJmp}}, nops(4093)...)}),
		of(api.Func{Regs: 64, Code: []api.Ins{{Op: api.OpExit, A: 63}}}), of(api.Func{Regs: 1, Area: 5, Code: []api.Ins{{Op: api.OpLea, N: 5}}}),
		of(api.Func{Regs: 1, Code: []api.Ins{{Op: api.OpData, N: 8192}, {Op: api.OpCall, N: 63}}}),
	}
}

// P8.1

// refused has modules that are not valid, by the error.
func refused() map[api.Errno][]api.Module {
	wrong := api.Func{Params: -1}
	far := api.Func{Regs: 1, Code: []api.Ins{{Op: api.OpExit, A: 1}}}
	illegal := api.Func{Code: []api.Ins{{}, {Op: 33}}}
	long := api.Func{Code: nops(4097)}
	lea := []api.Ins{{Op: api.OpLea, N: 6}}
	return map[api.Errno][]api.Module{
		api.ErrLong: {
			{Data: make([]byte, 8193), Funcs: []api.Func{{}}}, {Data: make([]byte, 8193)}, {Data: make([]byte, 8193), Funcs: []api.Func{wrong}}, {Data: make([]byte, 65536), Funcs: []api.Func{{}}},
			of(long), of(api.Func{Code: append([]api.Ins{{Op: api.OpJmp}}, nops(4094)...)}), of(api.Func{}, long, wrong), of(long, illegal), of(api.Func{Code: append(nops(4095), api.Ins{Op: api.OpExit})}),
			of(api.Func{Regs: 1, Code: []api.Ins{{Op: api.OpCall, Args: make([]int, 9)}}}), of(api.Func{Code: []api.Ins{{Op: api.OpExit}, {Op: api.OpCall, Args: make([]int, 9)}}}),
		},
		api.ErrArg: {
			{}, {Data: make([]byte, 8192)}, of(make([]api.Func, 65)...), of(append([]api.Func{illegal}, make([]api.Func, 64)...)...), of(make([]api.Func, 256)...),
			of(wrong), of(api.Func{Params: 9, Regs: 64}), of(api.Func{Params: 9, Regs: 9}), of(api.Func{Params: 1}), of(api.Func{Params: 8, Regs: 7}), of(api.Func{Params: math.MinInt, Regs: 64}), of(api.Func{Params: 256, Regs: 64}),
			of(api.Func{Regs: -1}), of(api.Func{Params: -1, Regs: -1}), of(api.Func{Regs: 65}), of(api.Func{Regs: 256}), of(api.Func{Regs: math.MaxInt}), of(api.Func{Regs: 1 << 32}),
			of(api.Func{Area: -1}), of(api.Func{Area: 4097}), of(api.Func{Area: 65536}), of(api.Func{Area: math.MinInt}), of(api.Func{Area: 1 << 32}),
			of(api.Func{}, wrong, illegal), of(api.Func{Params: 1, Code: illegal.Code}), of(api.Func{Regs: 65, Code: long.Code}), of(api.Func{Area: -1, Code: far.Code}), of(append(make([]api.Func, 63), wrong)...),
			of(api.Func{Code: []api.Ins{{A: 1}}}), of(api.Func{Regs: 1, Code: []api.Ins{{Op: api.OpExit, A: 1}, {A: 1}}}), of(api.Func{Code: []api.Ins{{A: 1}, {Op: 33}}}),
		},
		api.ErrRange: {
			of(far), of(far, wrong), of(api.Func{}, far, illegal), of(api.Func{Code: []api.Ins{{}, {Op: api.OpGetb}}}), of(api.Func{Regs: 63, Code: []api.Ins{{Op: api.OpExit, A: 63}}}),
			of(api.Func{Regs: 64, Code: []api.Ins{{Op: api.OpExit, A: 64}}}), of(api.Func{Regs: 64, Code: []api.Ins{{Op: api.OpExit, A: -1}}}),
			of(api.Func{Regs: 1, Area: 5, Code: lea}), of(api.Func{Regs: 1, Code: lea}), of(api.Func{Regs: 2, Code: []api.Ins{{Op: api.OpCall, Args: []int{0, 1, 2}}}}),
			of(api.Func{Regs: 1, Code: []api.Ins{{Op: api.OpCall, N: 64}}}), of(api.Func{Regs: 1, Area: 4096, Code: []api.Ins{{Op: api.OpLea, N: 4097}}}),
		},
		api.ErrIllegal: {
			of(illegal), of(illegal, wrong), of(api.Func{Regs: 1, Code: []api.Ins{{Op: api.OpExit}, {Op: 33}, {A: 1}}}), of(api.Func{Regs: 1, Code: []api.Ins{{Op: api.OpExit, A: 1}, {Op: -1}}}), of(api.Func{Code: append(nops(4097), api.Ins{Op: 33})}), of(api.Func{}, api.Func{}, illegal, far),
		},
	}
}

func TestCheck(t *testing.T) {
	for n, m := range valid() {
		if e := module.Check(m); e != api.OK {
			t.Errorf("%d: %v", n, e)
		}
	}
}

func TestRefused(t *testing.T) {
	for want, all := range refused() {
		for n, m := range all {
			if e := module.Check(m); e != want {
				t.Errorf("%d: %v, not %v", n, e, want)
			}
			if b, e := module.Put(m); e != want || len(b) != 0 {
				t.Errorf("%d: % d %v, not %v", n, b, e, want)
			}
		}
	}
}

func TestEachErrorOfAnInstructionInAnyFunction(t *testing.T) {
	for want, i := range map[api.Errno]api.Ins{
		api.ErrArg: {N: 1}, api.ErrLong: {Op: api.OpCall, Args: make([]int, 9)}, api.ErrRange: {Op: api.OpExit, A: 2}, api.ErrIllegal: {Op: 34},
	} {
		for at := range 64 {
			m := of(make([]api.Func, 64)...)
			m.Funcs[at] = api.Func{Regs: 2, Code: []api.Ins{{}, i}}
			if e := module.Check(m); e != want {
				t.Errorf("%+v in function %d: %v", i, at, e)
			}
		}
	}
}

// others are modules each of which differs from the large one in one field.
func others() []api.Module {
	var out []api.Module
	for _, change := range []func(*api.Module){
		func(m *api.Module) { m.Data = nil }, func(m *api.Module) { m.Data[2] = 254 }, func(m *api.Module) { m.Data = m.Data[:2] }, func(m *api.Module) { m.Data = append(m.Data, 0) },
		func(m *api.Module) { m.Funcs = m.Funcs[:2] }, func(m *api.Module) { m.Funcs = append(m.Funcs, api.Func{}) }, func(m *api.Module) { m.Funcs = nil },
		func(m *api.Module) { m.Funcs[0].Params = 1 }, func(m *api.Module) { m.Funcs[1].Params = -1 }, func(m *api.Module) { m.Funcs[2].Regs = 63 }, func(m *api.Module) { m.Funcs[1].Regs = 1 }, func(m *api.Module) { m.Funcs[1].Area = 1 }, func(m *api.Module) { m.Funcs[2].Area = 4097 },
		func(m *api.Module) { m.Funcs[0].Code = m.Funcs[0].Code[:2] }, func(m *api.Module) { m.Funcs[0].Code = append(m.Funcs[0].Code, api.Ins{}) }, func(m *api.Module) { m.Funcs[1].Code = nops(1) },
		func(m *api.Module) { m.Funcs[0].Code[0].Op = api.OpSub }, func(m *api.Module) { m.Funcs[0].Code[0].A = 1 }, func(m *api.Module) { m.Funcs[0].Code[0].B = 0 }, func(m *api.Module) { m.Funcs[0].Code[0].C = 1 }, func(m *api.Module) { m.Funcs[0].Code[2].N = 62 },
		func(m *api.Module) { m.Funcs[0].Code[2].Args[2] = 2 }, func(m *api.Module) { m.Funcs[0].Code[2].Args = []int{1, 0} }, func(m *api.Module) { m.Funcs[2].Code[1].Args = []int{0} },
		func(m *api.Module) { slices.Reverse(m.Funcs) }, func(m *api.Module) { slices.Reverse(m.Funcs[0].Code) }, func(m *api.Module) { slices.Reverse(m.Data) },
	} {
		m, _ := large()
		change(&m)
		out = append(out, m)
	}
	return out
}

func TestSame(t *testing.T) {
	all := append(others(), valid()[1:]...)
	one, _ := large()
	two, _ := large()
	if !module.Same(one, two) || !module.Same(one, one) {
		t.Error("not the same")
	}
	for n, m := range all {
		if n < len(others()) && (module.Same(m, one) || module.Same(one, m)) {
			t.Errorf("%d is the same", n)
		}
		if !module.Same(m, m) {
			t.Errorf("%d is not the same as itself", n)
		}
	}
}

func TestSameOfAnyModules(t *testing.T) {
	none := api.Module{}
	odd := of(append(make([]api.Func, 99), api.Func{Params: -5, Regs: math.MaxInt, Code: []api.Ins{{Op: 99, A: -1, Args: make([]int, 20)}}})...)
	for _, x := range [][2]api.Module{
		{none, none}, {none, {Data: []byte{}, Funcs: []api.Func{}}}, {of(api.Func{}), of(api.Func{Code: []api.Ins{}})}, {of(api.Func{Code: nops(1)}), of(api.Func{Code: []api.Ins{{Args: []int{}}}})}, {odd, odd},
	} {
		if !module.Same(x[0], x[1]) || !module.Same(x[1], x[0]) {
			t.Errorf("%+v, %+v", x[0], x[1])
		}
	}
	if module.Same(none, of(api.Func{})) || module.Same(odd, of(odd.Funcs[:99]...)) || module.Same(of(api.Func{}), of(api.Func{}, api.Func{})) {
		t.Error("the same")
	}
}

// P8.2

func TestBytes(t *testing.T) {
	wide, wideBytes := large()
	for n, x := range []struct {
		m api.Module
		b []byte
	}{
		{small(), smallBytes()}, {wide, wideBytes},
		{of(api.Func{}), raw(84, 87, 1, 0, 0, 1, 0, 0, 0, 0, 0, 0)},
		{api.Module{Data: make([]byte, 258), Funcs: []api.Func{{}}}, slices.Concat(raw(84, 87, 1, 2, 1), make([]byte, 258), raw(1, 0, 0, 0, 0, 0, 0))},
		{api.Module{Data: make([]byte, 8192), Funcs: []api.Func{{}}}, slices.Concat(raw(84, 87, 1, 0, 32), make([]byte, 8192), raw(1, 0, 0, 0, 0, 0, 0))},
		{of(api.Func{Params: 1, Regs: 2, Area: 255, Code: nops(258)}), slices.Concat(raw(84, 87, 1, 0, 0, 1, 1, 2, 255, 0, 2, 1), make([]byte, 258))},
		{of(api.Func{Code: nops(4096)}), slices.Concat(raw(84, 87, 1, 0, 0, 1, 0, 0, 0, 0, 0, 16), make([]byte, 4096))},
		{of(make([]api.Func, 64)...), slices.Concat(raw(84, 87, 1, 0, 0, 64), make([]byte, 6*64))},
	} {
		b, e := module.Put(x.m)
		if e != api.OK || !bytes.Equal(b, x.b) {
			t.Errorf("%d: % d %v", n, b, e)
		}
		m, f := module.Get(x.b)
		if f != (api.Fault{}) || !module.Same(m, x.m) {
			t.Errorf("%d: %+v %v", n, m, f)
		}
	}
}

func TestEachBeginningMissesBytes(t *testing.T) {
	_, wide := large()
	for _, b := range [][]byte{smallBytes(), wide} {
		for many := range b {
			refuses(t, b[:many], fault(api.ErrBytes, many))
		}
	}
}

func refuses(t *testing.T, b []byte, want api.Fault) {
	t.Helper()
	if m, f := module.Get(b); f != want || len(m.Data) != 0 || len(m.Funcs) != 0 {
		t.Errorf("% d: %+v %v, not %v", b[:min(len(b), 80)], m, f, want)
	}
}

// one is the bytes of a module of one function, from Params on.
func one(n ...byte) []byte { return append(raw(84, 87, 1, 0, 0, 1), n...) }

func TestGetRefuses(t *testing.T) {
	for _, x := range []struct {
		b    []byte
		want api.Fault
	}{
		{nil, fault(api.ErrBytes, 0)}, {raw(84), fault(api.ErrBytes, 1)}, {raw(84, 87), fault(api.ErrBytes, 2)}, {raw(84, 87, 1), fault(api.ErrBytes, 3)},
		{raw(85), fault(api.ErrForm, 0)}, {raw(0), fault(api.ErrForm, 0)}, {raw(84, 86), fault(api.ErrForm, 0)}, {raw(87, 84), fault(api.ErrForm, 0)}, {raw(84, 87, 0), fault(api.ErrForm, 0)}, {raw(84, 87, 2), fault(api.ErrForm, 0)}, {raw(0, 87, 1), fault(api.ErrForm, 0)},
		{raw(84, 87, 2, 1, 32), fault(api.ErrForm, 0)}, {raw(1, 87, 1, 0, 0, 0), fault(api.ErrForm, 0)},
		{raw(84, 87, 1, 1), fault(api.ErrBytes, 4)}, {raw(84, 87, 1, 1, 32), fault(api.ErrLong, 3)}, {raw(84, 87, 1, 255, 255), fault(api.ErrLong, 3)}, {slices.Concat(raw(84, 87, 1, 1, 32), make([]byte, 8193), raw(1, 0, 0, 0, 0, 0, 0)), fault(api.ErrLong, 3)},
		{raw(84, 87, 1, 0, 32), fault(api.ErrBytes, 5)}, {append(raw(84, 87, 1, 0, 32), make([]byte, 8191)...), fault(api.ErrBytes, 8196)}, {append(raw(84, 87, 1, 0, 32), make([]byte, 8192)...), fault(api.ErrBytes, 8197)},
		{raw(84, 87, 1, 0, 0), fault(api.ErrBytes, 5)}, {raw(84, 87, 1, 0, 0, 0), fault(api.ErrArg, 5)}, {raw(84, 87, 1, 0, 0, 0, 9), fault(api.ErrArg, 5)}, {raw(84, 87, 1, 2, 0, 7, 7, 0), fault(api.ErrArg, 7)},
		{raw(84, 87, 1, 0, 0, 65), fault(api.ErrArg, 5)}, {raw(84, 87, 1, 0, 0, 255), fault(api.ErrArg, 5)}, {append(raw(84, 87, 1, 0, 0, 65), make([]byte, 6*65)...), fault(api.ErrArg, 5)}, {raw(84, 87, 1, 0, 0, 64), fault(api.ErrBytes, 6)}, {append(raw(84, 87, 1, 0, 0, 64), make([]byte, 6*63)...), fault(api.ErrBytes, 6+6*63)},
		{one(0, 0, 0, 0, 1, 16), fault(api.ErrLong, 10)}, {append(one(0, 0, 0, 0, 1, 16), make([]byte, 4097)...), fault(api.ErrLong, 10)}, {one(0, 0, 0, 0, 255, 255), fault(api.ErrLong, 10)}, {append(one(0, 0, 0, 0, 0, 16), make([]byte, 4095)...), fault(api.ErrBytes, 12+4095)},
		{one(0, 0, 0, 0, 1, 0, 33), fault(api.ErrForm, 12)}, {one(0, 64, 0, 0, 2, 0, 0, 30), fault(api.ErrForm, 12)}, {one(0, 64, 0, 0, 3, 0, 0, 30, 64), fault(api.ErrForm, 12)}, {one(0, 64, 0, 0, 4, 0, 28, 0, 0, 9), fault(api.ErrForm, 12)}, {one(0, 0, 0, 0, 1, 0, 33, 9), fault(api.ErrForm, 12)},
		{one(0, 0, 0, 0, 0, 0, 0), fault(api.ErrBytes, 12)}, {append(smallBytes(), 9), fault(api.ErrBytes, 16)}, {append(smallBytes(), make([]byte, 99)...), fault(api.ErrBytes, 16)},
		{one(9, 64, 0, 0, 0, 0), fault(api.ErrArg, 0)}, {one(1, 0, 0, 0, 0, 0), fault(api.ErrArg, 0)}, {one(8, 7, 0, 0, 0, 0), fault(api.ErrArg, 0)}, {one(0, 65, 0, 0, 0, 0), fault(api.ErrArg, 0)}, {one(0, 255, 0, 0, 0, 0), fault(api.ErrArg, 0)}, {one(0, 0, 1, 16, 0, 0), fault(api.ErrArg, 0)}, {one(0, 0, 255, 255, 0, 0), fault(api.ErrArg, 0)},
		{one(0, 1, 0, 0, 2, 0, 30, 1), fault(api.ErrArg, 0)}, {one(0, 1, 5, 0, 4, 0, 23, 0, 6, 0), fault(api.ErrArg, 0)},
		{one(9, 64, 0, 0, 0, 0, 0), fault(api.ErrBytes, 12)}, {one(9, 64, 0, 0, 1), fault(api.ErrBytes, 11)}, {one(9, 65, 1, 16, 1, 16), fault(api.ErrLong, 10)}, {one(9, 65, 1, 16, 1, 0, 77), fault(api.ErrForm, 12)},
	} {
		refuses(t, x.b, x.want)
	}
}

func TestTheFirstOfTwoFaults(t *testing.T) {
	// Each fault is in front of those in the rows below it, in bytes of two functions behind two bytes of data.
	good := raw(84, 87, 1, 2, 0, 7, 7, 2, 0, 1, 0, 0, 2, 0, 30, 0, 0, 1, 0, 0, 2, 0, 32, 0)
	if _, f := module.Get(good); f != (api.Fault{}) {
		t.Fatal(f)
	}
	rows := []struct {
		at   int
		to   byte
		want api.Fault
	}{
		{0, 1, fault(api.ErrForm, 0)}, {4, 64, fault(api.ErrLong, 3)}, {7, 0, fault(api.ErrArg, 7)}, {13, 255, fault(api.ErrLong, 12)}, {14, 99, fault(api.ErrForm, 14)}, {21, 255, fault(api.ErrLong, 20)}, {22, 99, fault(api.ErrForm, 22)}, {8, 9, fault(api.ErrArg, 0)},
	}
	for n, x := range rows {
		for _, y := range rows[n:] {
			b := bytes.Clone(good)
			b[x.at], b[y.at] = x.to, y.to
			refuses(t, b, x.want)
		}
		if n < len(rows)-1 {
			b := append(bytes.Clone(good), 0)
			b[x.at] = x.to
			refuses(t, b, x.want)
		}
	}
}

// The rules that hold everywhere.

func TestArgumentsAreNotChangedNorKept(t *testing.T) {
	m, b := large()
	again, _ := large()
	got, e := module.Put(m)
	if e != api.OK || !module.Same(m, again) {
		t.Fatal(e, m)
	}
	got[5], got[29] = 1, 0
	if !module.Same(m, again) {
		t.Error("what was put shares the module's bytes", m)
	}
	read, f := module.Get(b)
	if f.Err != api.OK {
		t.Fatal(f)
	}
	clear(b)
	if !module.Same(read, again) {
		t.Error("what was read is kept in the bytes", read)
	}
	read, _ = module.Get(got)
	whole := bytes.Clone(got)
	_ = append(read.Data, 1)
	read.Data[0], read.Funcs[0].Code[2].Args[0] = 77, 77
	if !bytes.Equal(whole, got) {
		t.Error("what is read is the bytes", got)
	}
}

func TestSpareCapacityIsNoPart(t *testing.T) {
	m, b := large()
	for many := range b {
		refuses(t, b[:many], fault(api.ErrBytes, many))
	}
	_, again := large()
	if !bytes.Equal(b, again) {
		t.Error("changed", b)
	}
	wide := m
	wide.Data, wide.Funcs = append(m.Data, 1, 2)[:3], append(m.Funcs, api.Func{Regs: 99})[:3]
	wide.Funcs[0].Code = append(wide.Funcs[0].Code, api.Ins{Op: 99})[:3]
	if got, e := module.Put(wide); e != api.OK || !bytes.Equal(got, b) || !module.Same(m, wide) {
		t.Error(got, e)
	}
	if len(wide.Funcs[:4]) != 4 || wide.Funcs[:4][3].Regs != 99 || wide.Funcs[0].Code[:4][3].Op != 99 {
		t.Error("written")
	}
}

func TestListsOfAnAnswerShareNothing(t *testing.T) {
	b := slices.Concat(raw(84, 87, 1, 2, 0, 7, 7, 2), raw(0, 2, 0, 0, 6, 0, 28, 0, 0, 2, 1, 1), raw(0, 2, 0, 0, 6, 0, 28, 0, 0, 2, 1, 1))
	m, f := module.Get(b)
	if f.Err != api.OK {
		t.Fatal(f)
	}
	m.Funcs[0].Code[0].Args[0] = 0
	m.Funcs[0].Code = append(m.Funcs[0].Code, api.Ins{Op: api.OpExit})
	_ = append(m.Funcs[0].Code[0].Args, 5, 5)
	if i := m.Funcs[1].Code[0]; len(m.Funcs[1].Code) != 1 || !slices.Equal(i.Args, []int{1, 1}) || code.Length(i) != 6 {
		t.Error(m)
	}
}
