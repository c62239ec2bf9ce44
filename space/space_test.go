package space_test

import (
	"bytes"
	"math"
	"reflect"
	"slices"
	"testing"

	"twinshaft/api"
	"twinshaft/module"
	"twinshaft/space"
)

// made is the chapter's module.
func made() api.Module {
	return api.Module{Data: []byte{9}, Funcs: []api.Func{{Regs: 2, Code: []api.Ins{{}}}, {Params: 1, Regs: 3, Area: 5, Code: []api.Ins{{}}}}}
}

// one is the module of one function, with so many params, registers, bytes of area and of data.
func one(params, regs, area, data int) api.Module {
	return api.Module{Data: bytes.Repeat([]byte{7}, data), Funcs: []api.Func{{Params: params, Regs: regs, Area: area, Code: []api.Ins{{}}}}}
}

func fresh(t *testing.T, m api.Module, memory int, in []byte, fuel int) *space.Space {
	t.Helper()
	s, e := space.New(m, memory, in, fuel)
	if s == nil || e != api.OK {
		t.Fatal("New:", memory, fuel, s, e)
	}
	return s
}

// usual is a space of the chapter's module, in its second function, with something in all its parts.
func usual(t *testing.T) *space.Space {
	t.Helper()
	s := fresh(t, made(), 256, []byte{1, 2, 3}, 10)
	_, got := s.Getb()
	for i, e := range []api.Errno{got, s.Putb(4), s.Set(0, 77), s.Set(1, 78), s.Go(5), s.Call(1, []int{1}, 0, 6), s.Set(2, 79), s.Go(9), s.Burn(3)} {
		if e != api.OK {
			t.Fatal(i, e)
		}
	}
	return s
}

// invalid are spaces that neither New nor Copy returned; one of them has all fields of one that New did.
func invalid(t *testing.T) []*space.Space {
	t.Helper()
	s := usual(t)
	copied := reflect.New(reflect.TypeOf(s).Elem())
	copied.Elem().Set(reflect.ValueOf(s).Elem())
	return []*space.Space{nil, {}, copied.Interface().(*space.Space)}
}

// refusals are what all functions say that return an error, of a space, for arguments that are right and for some that are not.
func refusals(s *space.Space) []api.Errno {
	var out []api.Errno
	for _, n := range []int{0, -1, 5000} {
		_, get := s.Get(n)
		_, getb := s.Getb()
		out = append(out, get, getb, s.Set(n, 5), s.Go(n), s.Burn(n), s.Call(n, nil, n, n), s.Call(1, []int{n}, 0, 0), s.Call(0, nil, n, 0), s.Return(uint64(n)),
			s.Putb(n), s.Stop(api.Ending{}), s.Stop(api.Ending{Kind: api.EndExit, Code: n}), s.Stop(api.Ending{Kind: api.EndFuel}))
	}
	return out
}

// all checks that these errors are all e.
func all(t *testing.T, what string, got []api.Errno, e api.Errno) {
	t.Helper()
	for i := range got {
		if got[i] != e {
			t.Error(what, i, "is", got[i], "not", e)
		}
	}
}

func TestInvalidSpaces(t *testing.T) {
	valid := usual(t)
	for i, s := range invalid(t) {
		all(t, "an invalid space", refusals(s), api.ErrNil)
		if s.Memory() != nil || s.Func() != 0 || s.Place() != 0 || s.At() != 0 || s.Fuel() != 0 || s.Depth() != 0 || s.Copy() != nil {
			t.Error(i, "is one")
		}
		if e, ended := s.End(); e != (api.Ending{}) || ended {
			t.Error(i, "has the ending", e, ended)
		}
		if x := s.Outcome(); len(x.Deeds) != 0 || x.End != (api.Ending{}) {
			t.Error(i, "has the outcome", x)
		}
		if s.Same(s) || s.Same(nil) || s.Same(valid) || valid.Same(s) {
			t.Error(i, "is the same as another one")
		}
	}
	if !valid.Same(usual(t)) {
		t.Error("an invalid space changed a valid one")
	}
}

func TestEndedSpacesDoNothing(t *testing.T) {
	for _, e := range endings() {
		s := usual(t)
		if got := s.Stop(e); got != api.OK {
			t.Fatal(e, got)
		}
		before := looked(s)
		all(t, "a space that has ended", refusals(s), api.ErrState)
		if !reflect.DeepEqual(looked(s), before) {
			t.Error("changed after", e)
		}
		if got, ended := s.End(); got != e || !ended {
			t.Error(got, ended, "not", e)
		}
	}
	s, c := usual(t), usual(t)
	s.Stop(api.Ending{Kind: api.EndFuel})
	for i, e := range refusals(s.Copy()) {
		if e != api.ErrState {
			t.Error("a copy of one that has ended", i, e)
		}
	}
	all(t, "a space that runs", []api.Errno{c.Go(0), c.Burn(0), c.Set(0, 0)}, api.OK)
}

// P15.1

func TestNewLays(t *testing.T) {
	for _, fn := range []struct{ params, regs, area, size int }{
		{0, 0, 0, 0}, {0, 0, 1, 16}, {0, 1, 0, 16}, {1, 1, 8, 16}, {0, 1, 9, 32}, {2, 2, 0, 16}, {3, 3, 0, 32}, {3, 3, 5, 32}, {8, 64, 0, 512}, {0, 64, 4096, 4608}, {8, 8, 1, 80},
	} {
		for _, data := range []int{0, 1, 15, 16, 17, 100, 8191, 8192} {
			for _, memory := range []int{13_000, 16_384, 65_536} {
				memory = up(memory)
				s := fresh(t, one(fn.params, fn.regs, fn.area, data), memory, nil, 33)
				if s.Func() != 0 || s.Place() != 0 || s.Depth() != 0 || s.Fuel() != 33 || s.At() != uint64(memory-fn.size) {
					t.Error(fn, data, memory, "is at", s.At(), s.Func(), s.Place(), s.Depth(), s.Fuel())
				}
				want := append(bytes.Repeat([]byte{7}, data), make([]byte, memory-16-data)...)
				if got, e := s.Memory().Bytes(16, memory-16); e != api.OK || !bytes.Equal(got, want) || s.Memory().Size() != memory {
					t.Error(fn, data, memory, "is not laid")
				}
				if e, ended := s.End(); ended || e != (api.Ending{}) {
					t.Error(fn, data, memory, "has ended", e)
				}
				for r := range fn.regs {
					if v, e := s.Get(r); v != 0 || e != api.OK {
						t.Error(fn, "register", r, v, e)
					}
				}
			}
		}
	}
}

func TestNewTakesFuel(t *testing.T) {
	for _, fuel := range []int{0, 1, 9_999_999, 10_000_000} {
		if s := fresh(t, made(), 64, nil, fuel); s.Fuel() != fuel {
			t.Error(fuel, s.Fuel())
		}
	}
}

func TestNewRefusesModulesThatAreNotValid(t *testing.T) {
	long := api.Func{Code: slices.Repeat([]api.Ins{{}}, 4097)}
	for i, m := range []api.Module{
		{}, {Data: []byte{1}}, {Funcs: slices.Repeat([]api.Func{{}}, 65)}, one(0, 0, 0, 8193), one(2, 1, 0, 0), one(9, 9, 0, 0), one(-1, 1, 0, 0), one(0, -1, 0, 0), one(0, 65, 0, 0), one(0, 0, 4097, 0), one(0, 0, -1, 0),
		{Funcs: []api.Func{{Code: []api.Ins{{Op: api.OpRet}}}}}, {Funcs: []api.Func{{}, {Code: []api.Ins{{Op: api.Ops}}}}}, {Funcs: []api.Func{long}},
	} {
		if module.Check(m) == api.OK {
			t.Fatal("the test is wrong:", i)
		}
		for _, memory := range []int{16, 17, 8192, 65_536} {
			if s, e := space.New(m, memory, nil, 5); s != nil || e != api.ErrArg {
				t.Error(i, memory, s, e)
			}
		}
	}
}

func TestNewTakesModulesThatAreNotAccepted(t *testing.T) {
	for _, m := range []api.Module{{Funcs: []api.Func{{}}}, {Funcs: []api.Func{{Regs: 1, Code: []api.Ins{{Op: api.OpExit}}}}}, {Funcs: slices.Repeat([]api.Func{{}}, 64)}} {
		fresh(t, m, 32, nil, 0)
	}
}

func TestNewRefusesNumbers(t *testing.T) {
	for _, memory := range []int{math.MinInt, -65_536, -16, -1, 0, 1, 8, 15, 17, 24, 31, 33, 100, 127, 129, 65_535, 65_537, 65_552, 1 << 20, 1 << 32, 1<<32 + 64, math.MaxInt - 15, math.MaxInt} {
		if s, e := space.New(made(), memory, nil, 0); s != nil || e != api.ErrArg {
			t.Error("memory", memory, s, e)
		}
	}
	for _, fuel := range []int{math.MinInt, -1 << 32, -2, -1, 10_000_001, 1 << 32, math.MaxInt} {
		for _, memory := range []int{16, 128} { // with 16 the data do not fit either
			if s, e := space.New(made(), memory, nil, fuel); s != nil || e != api.ErrArg {
				t.Error("fuel", fuel, s, e)
			}
		}
	}
}

func TestNewAsksWhetherDataFit(t *testing.T) {
	for data := range 8193 {
		if data > 70 && data < 8120 {
			continue
		}
		floor := up(16 + data)
		for memory := 16; memory <= floor+32; memory += 16 {
			s, e := space.New(one(0, 0, 0, data), memory, nil, 0)
			if floor > memory && (s != nil || e != api.ErrFull) || floor <= memory && (s == nil || e != api.OK) {
				t.Error(data, memory, s, e)
			}
			if memory < floor-48 {
				memory += (floor - memory - 32) / 16 * 16
			}
		}
	}
}

func TestTheFirstFrameMayNotFit(t *testing.T) {
	for _, x := range []struct {
		memory, regs, area, data int
		fits                     bool
	}{
		{16, 0, 0, 0, true}, {16, 1, 0, 0, false}, {16, 0, 1, 0, false}, {32, 2, 0, 0, true}, {32, 2, 1, 0, false}, {32, 1, 0, 1, false}, {32, 0, 0, 16, true},
		{48, 1, 8, 16, true}, {48, 1, 9, 16, false}, {48, 1, 8, 17, false}, {64, 1, 9, 16, true}, {64, 6, 0, 1, false}, {64, 4, 0, 1, true}, {64, 5, 0, 1, false},
		{16 + 4608, 64, 4096, 0, true}, {4608, 64, 4096, 0, false}, {8208 + 16, 1, 0, 8192, true}, {8208, 1, 0, 8192, false}, {8208, 0, 0, 8192, true},
	} {
		s := fresh(t, one(0, x.regs, x.area, x.data), x.memory, []byte{5}, 3)
		e, ended := s.End()
		if ended == x.fits || s.Func() != 0 || s.Place() != 0 || s.Depth() != 0 || s.Fuel() != 3 {
			t.Error(x, e, ended)
		}
		if x.fits {
			continue
		}
		if e != (api.Ending{Kind: api.EndStack}) || s.At() != uint64(x.memory) || s.Outcome().End != e || len(s.Outcome().Deeds) != 0 {
			t.Error(x, e, s.At(), s.Outcome())
		}
		if b, e := s.Memory().Bytes(16, x.data); e != api.OK || !bytes.Equal(b, bytes.Repeat([]byte{7}, x.data)) {
			t.Error(x, "has no data")
		}
		all(t, "a space without a frame", refusals(s), api.ErrState)
	}
}

func TestNewKeepsNothing(t *testing.T) {
	whole := func() (api.Module, []byte) {
		m := api.Module{Data: []byte{1, 2, 3}, Funcs: []api.Func{{Regs: 2, Code: []api.Ins{{Op: api.OpCall, N: 1, Args: []int{1}}}}, {Params: 1, Regs: 2}}}
		return m, []byte{4, 5}
	}
	m, in := whole()
	s := fresh(t, m, 128, in, 9)
	m.Data[0], m.Funcs[0].Regs, m.Funcs[1].Params, m.Funcs[0].Code[0].Args[0], m.Funcs[0].Code[0].N, in[0] = 99, 0, 0, 0, 0, 98
	m, in = whole()
	other := fresh(t, m, 128, in, 9)
	if !s.Same(other) || !other.Same(s) {
		t.Error("what is changed after New is seen")
	}
	if b, e := s.Getb(); b != 4 || e != api.OK {
		t.Error("got", b, e)
	}
	s.Call(1, []int{0}, 0, 0)
	s.Memory().Store(16, 8, 0)
	n, out := whole()
	if !module.Same(m, n) || !slices.Equal(in, out) {
		t.Error("what is given to New is changed")
	}
}

// P15.2

func TestMemoryIsItself(t *testing.T) {
	s := usual(t)
	if s.Memory() != s.Memory() || s.Copy().Memory() == s.Memory() {
		t.Error("another memory")
	}
	if s.Memory().Store(s.At()+8, 8, 12345) != api.OK {
		t.Fatal("store")
	}
	if v, e := s.Get(1); v != 12345 || e != api.OK {
		t.Error(v, e)
	}
	if s.Set(2, 0x0807060504030201) != api.OK {
		t.Fatal("set")
	}
	if b, _ := s.Memory().Bytes(s.At()+16, 8); !bytes.Equal(b, []byte{1, 2, 3, 4, 5, 6, 7, 8}) {
		t.Error(b)
	}
}

func TestLooksTellTheState(t *testing.T) {
	s := usual(t)
	if s.Func() != 1 || s.Place() != 9 || s.At() != 256-16-32 || s.Fuel() != 7 || s.Depth() != 1 {
		t.Error(s.Func(), s.Place(), s.At(), s.Fuel(), s.Depth())
	}
	done := []api.Deed{{Kind: api.DeedGot, B: 1}, {Kind: api.DeedPut, B: 4}}
	if x := s.Outcome(); !slices.Equal(x.Deeds, done) || x.End != (api.Ending{}) {
		t.Error(x)
	}
	s.Stop(api.Ending{Kind: api.EndTrap, Code: 2})
	if x := s.Outcome(); !slices.Equal(x.Deeds, done) || x.End != (api.Ending{Kind: api.EndTrap, Code: 2}) {
		t.Error(x)
	}
	x := s.Outcome()
	x.Deeds[0].B = 200
	if again := s.Outcome(); !slices.Equal(again.Deeds, done) {
		t.Error("an outcome is no new memory")
	}
}

// changes are things that each change one part of a usual space; all results differ from it, and from each other.
func changes() []func(s *space.Space) {
	return []func(s *space.Space){
		func(s *space.Space) {},
		func(s *space.Space) { s.Memory().Store(16, 1, 200) },
		func(s *space.Space) { s.Memory().Store(255, 1, 200) },
		func(s *space.Space) { s.Set(0, 1) },
		func(s *space.Space) { s.Go(10) },
		func(s *space.Space) { s.Burn(1) },
		func(s *space.Space) { s.Burn(7) },
		func(s *space.Space) { s.Getb() },
		func(s *space.Space) { s.Putb(4) },
		func(s *space.Space) { s.Putb(5) },
		func(s *space.Space) { s.Call(0, nil, 0, 9) },
		func(s *space.Space) { s.Call(0, nil, 1, 9) },
		func(s *space.Space) { s.Call(0, nil, 0, 10) },
		func(s *space.Space) { s.Call(1, []int{0}, 0, 9) },
		func(s *space.Space) { s.Return(77) },
		func(s *space.Space) { s.Stop(api.Ending{Kind: api.EndStack}) },
		func(s *space.Space) { s.Stop(api.Ending{Kind: api.EndFuel}) },
		func(s *space.Space) { s.Stop(api.Ending{Kind: api.EndTrap, Code: 1}) },
		func(s *space.Space) { s.Stop(api.Ending{Kind: api.EndTrap, Code: 2}) },
		func(s *space.Space) { s.Stop(api.Ending{Kind: api.EndExit}) },
	}
}

func TestSameSeesEachPart(t *testing.T) {
	for i, first := range changes() {
		for j, second := range changes() {
			a, b := usual(t), usual(t)
			first(a)
			second(b)
			if a.Same(b) != (i == j) || b.Same(a) != (i == j) {
				t.Error(i, j, a.Same(b), b.Same(a))
			}
		}
	}
}

func TestSameSeesTheModule(t *testing.T) {
	m := api.Module{Data: []byte{0}, Funcs: []api.Func{{Regs: 2, Code: []api.Ins{{Op: api.OpRet}}}, {Params: 1, Regs: 3, Area: 5}}}
	others := []func(m *api.Module){
		func(m *api.Module) { m.Data = nil },
		func(m *api.Module) { m.Data = []byte{0, 0} },
		func(m *api.Module) { m.Funcs[0].Code[0].A = 1 },
		func(m *api.Module) { m.Funcs[0].Code[0].Op = api.OpExit },
		func(m *api.Module) { m.Funcs[0].Code = nil },
		func(m *api.Module) { m.Funcs[0].Regs, m.Funcs[0].Area = 1, 8 },
		func(m *api.Module) { m.Funcs[0].Params = 1 },
		func(m *api.Module) { m.Funcs[1].Area = 4 },
		func(m *api.Module) { m.Funcs = append(m.Funcs, api.Func{}) },
		func(m *api.Module) { m.Funcs = m.Funcs[:1] },
	}
	s := fresh(t, m, 128, nil, 0)
	for i, change := range others {
		other := api.Module{Data: []byte{0}, Funcs: []api.Func{{Regs: 2, Code: []api.Ins{{Op: api.OpRet}}}, {Params: 1, Regs: 3, Area: 5}}}
		change(&other)
		if x := fresh(t, other, 128, nil, 0); x.Same(s) || s.Same(x) || !x.Same(x) {
			t.Error(i, "is not seen")
		}
	}
	if !s.Same(fresh(t, m, 128, nil, 0)) || s.Same(fresh(t, m, 144, nil, 0)) {
		t.Error("the memory")
	}
}

func TestSameSeesTheRestOfTheTape(t *testing.T) {
	inputs := [][]byte{nil, {1}, {2}, {1, 2}, {1, 3}, {2, 2}, {1, 2, 3}}
	for i, a := range inputs {
		for j, b := range inputs {
			x, y := fresh(t, made(), 128, a, 0), fresh(t, made(), 128, b, 0)
			if x.Same(y) != (i == j) {
				t.Error(a, b, x.Same(y))
			}
		}
	}
	x, y := fresh(t, made(), 128, []byte{1, 2}, 0), fresh(t, made(), 128, []byte{1, 3}, 0)
	x.Getb()
	y.Getb()
	if x.Same(y) {
		t.Error("the rest after a byte that was got")
	}
	for _, s := range []*space.Space{x, y} {
		for s.Putb(0) == api.OK {
		}
	}
	if x.Same(y) || !x.Same(x.Copy()) {
		t.Error("the rest of a tape that is full")
	}
	x, y = fresh(t, made(), 128, []byte{5}, 0), fresh(t, made(), 128, []byte{6}, 0)
	x.Getb()
	y.Getb()
	if x.Same(y) {
		t.Error("deeds, where no rest is left")
	}
}

func TestCopyIsIndependent(t *testing.T) {
	for i, change := range changes()[1:] {
		s := usual(t)
		c := s.Copy()
		if c == nil || c == s || !c.Same(s) || !s.Same(c) {
			t.Fatal("copy", c)
		}
		change(s)
		if !c.Same(usual(t)) || s.Same(c) {
			t.Error(i+1, "a change is seen in the copy")
		}
		c, s = s.Copy(), usual(t)
		before := looked(c)
		d := s.Copy()
		change(d)
		if !s.Same(usual(t)) || !d.Same(c) || !reflect.DeepEqual(looked(d), before) {
			t.Error(i+1, "a change of the copy is seen")
		}
	}
	s := fresh(t, made(), 256, nil, 5)
	if !s.Copy().Copy().Same(s) {
		t.Error("copies ahead of any other call")
	}
}

func TestCopiesOfDeepSpacesHaveLinksOfTheirOwn(t *testing.T) {
	s := fresh(t, one(0, 2, 0, 0), 4096, nil, 0)
	for i := range 20 {
		s.Call(0, nil, i%2, i)
	}
	a, b := s.Copy(), s.Copy()
	a.Return(1)
	b.Return(1)
	a.Call(0, nil, 0, 1000)
	b.Call(0, nil, 1, 2000)
	for i, x := range []*space.Space{a, b, s} {
		x.Return(5)
		if want := []int{1000, 2000, 19}[i]; x.Place() != want {
			t.Error(i, "returns to", x.Place())
		}
	}
}

// P15.3

func TestGetAndSet(t *testing.T) {
	for _, regs := range []int{0, 1, 2, 7, 64} {
		s := fresh(t, one(0, regs, 0, 0), 1024, nil, 0)
		for r := range regs {
			if e := s.Set(r, uint64(r)*0x0102030405060708+1); e != api.OK {
				t.Error(regs, r, e)
			}
		}
		for _, r := range []int{math.MinInt, -1 << 32, -2, -1, regs, regs + 1, 64, 1 << 32, 1<<32 + 1, math.MaxInt} {
			before := looked(s)
			if v, e := s.Get(r); v != 0 || e != api.ErrRange {
				t.Error(regs, "Get", r, v, e)
			}
			if e := s.Set(r, 1); e != api.ErrRange || !reflect.DeepEqual(looked(s), before) {
				t.Error(regs, "Set", r, e)
			}
		}
		for r := range regs {
			want := uint64(r)*0x0102030405060708 + 1
			if v, e := s.Get(r); v != want || e != api.OK {
				t.Error(regs, r, v, e)
			}
			if v, e := s.Memory().Load(s.At()+8*uint64(r), 8); v != want || e != api.OK {
				t.Error(regs, r, "in memory", v, e)
			}
		}
	}
	s := fresh(t, one(0, 1, 0, 0), 32, nil, 0)
	if s.Set(0, math.MaxUint64) != api.OK {
		t.Error("set")
	}
	if v, e := s.Get(0); v != math.MaxUint64 || e != api.OK {
		t.Error(v, e)
	}
}

func TestGo(t *testing.T) {
	s := usual(t)
	for _, place := range []int{0, 1, 4094, 4095, 7} {
		if e := s.Go(place); e != api.OK || s.Place() != place {
			t.Error(place, e, s.Place())
		}
	}
	for _, place := range []int{math.MinInt, -1 << 32, -1, 4096, 4097, 1 << 32, math.MaxInt} {
		if e := s.Go(place); e != api.ErrRange || s.Place() != 7 {
			t.Error(place, e, s.Place())
		}
	}
}

func TestBurn(t *testing.T) {
	s := fresh(t, made(), 64, nil, 10)
	for _, x := range []struct {
		n    int
		e    api.Errno
		left int
	}{
		{-1, api.ErrArg, 10}, {11, api.ErrArg, 10}, {math.MaxInt, api.ErrArg, 10}, {math.MinInt, api.ErrArg, 10}, {1 << 32, api.ErrArg, 10}, {0, api.OK, 10},
		{4, api.OK, 6}, {7, api.ErrArg, 6}, {6, api.OK, 0}, {1, api.ErrArg, 0}, {0, api.OK, 0}, {-1, api.ErrArg, 0},
	} {
		if e := s.Burn(x.n); e != x.e || s.Fuel() != x.left {
			t.Error(x, e, s.Fuel())
		}
	}
	s = fresh(t, made(), 64, nil, 10_000_000)
	if e := s.Burn(10_000_000); e != api.OK || s.Fuel() != 0 {
		t.Error(e, s.Fuel())
	}
}

// P15.4

// wide has functions with 3, 0 and 8 params.
func wide() api.Module {
	return api.Module{Data: []byte{1}, Funcs: []api.Func{{Params: 3, Regs: 9}, {Regs: 1, Area: 100}, {Params: 8, Regs: 8}, {}}}
}

func TestCallRefuses(t *testing.T) {
	eight := []int{0, 1, 2, 3, 4, 5, 6, 8}
	for i, x := range []struct {
		f            int
		args         []int
		result, back int
		e            api.Errno
	}{
		{-1, nil, 0, 0, api.ErrArg}, {4, nil, 0, 0, api.ErrArg}, {math.MinInt, nil, 0, 0, api.ErrArg}, {math.MaxInt, nil, 0, 0, api.ErrArg}, {1 << 32, []int{0, 0, 0}, 0, 0, api.ErrArg},
		{0, nil, 0, 0, api.ErrArg}, {0, []int{0, 1}, 0, 0, api.ErrArg}, {0, []int{0, 1, 2, 3}, 0, 0, api.ErrArg}, {1, []int{0}, 0, 0, api.ErrArg}, {2, eight[:7], 0, 0, api.ErrArg}, {2, append(slices.Clone(eight), 0), 0, 0, api.ErrArg},
		{0, []int{99, 99}, -1, -1, api.ErrArg}, {9, []int{99}, 99, 9999, api.ErrArg},
		{0, []int{0, 1, 9}, 0, 0, api.ErrRange}, {0, []int{-1, 1, 2}, 0, 0, api.ErrRange}, {0, []int{0, 64, 2}, 0, 0, api.ErrRange}, {2, []int{0, 1, 2, 3, 4, 5, 6, 9}, 0, 0, api.ErrRange}, {0, []int{math.MaxInt, 1, 2}, 0, 0, api.ErrRange}, {0, []int{0, math.MinInt, 2}, 0, 0, api.ErrRange},
		{1, nil, -1, 0, api.ErrRange}, {1, nil, 9, 0, api.ErrRange}, {1, nil, math.MinInt, 0, api.ErrRange}, {1, nil, math.MaxInt, 0, api.ErrRange}, {1, nil, 1 << 32, 0, api.ErrRange},
		{1, nil, 0, -1, api.ErrRange}, {1, nil, 0, 4096, api.ErrRange}, {1, nil, 0, math.MinInt, api.ErrRange}, {1, nil, 0, math.MaxInt, api.ErrRange}, {1, nil, 0, 1 << 32, api.ErrRange},
		{1, nil, 8, 4095, api.OK}, {2, eight, 8, 0, api.OK}, {0, []int{8, 8, 8}, 0, 1, api.OK}, {3, []int{}, 0, 0, api.OK},
	} {
		s := fresh(t, wide(), 1024, nil, 3)
		s.Go(17)
		before := looked(s)
		e := s.Call(x.f, x.args, x.result, x.back)
		if e != x.e || e != api.OK && !reflect.DeepEqual(looked(s), before) || e == api.OK && s.Depth() != 1 {
			t.Error(i, x, e)
		}
	}
}

func TestCallEntersAndPasses(t *testing.T) {
	s := fresh(t, wide(), 1024, nil, 3)
	for r := range 9 {
		s.Set(r, uint64(100+r))
	}
	s.Memory().Store(1024-80-64, 8, math.MaxUint64) // where the next frame will be
	s.Memory().Store(1024-80-8, 8, math.MaxUint64)
	s.Go(30)
	if e := s.Call(2, []int{8, 7, 7, 0, 1, 2, 8, 3}, 5, 40); e != api.OK {
		t.Fatal(e)
	}
	if s.Func() != 2 || s.Place() != 0 || s.At() != 1024-80-64 || s.Depth() != 1 || s.Fuel() != 3 {
		t.Error(s.Func(), s.Place(), s.At(), s.Depth(), s.Fuel())
	}
	for r, want := range []uint64{108, 107, 107, 100, 101, 102, 108, 103} {
		if v, e := s.Get(r); v != want || e != api.OK {
			t.Error("param", r, v, e)
		}
	}
	if e := s.Return(999); e != api.OK {
		t.Fatal(e)
	}
	if s.Func() != 0 || s.Place() != 40 || s.At() != 1024-80 || s.Depth() != 0 {
		t.Error(s.Func(), s.Place(), s.At(), s.Depth())
	}
	for r := range 9 {
		want := uint64(100 + r)
		if r == 5 {
			want = 999
		}
		if v, e := s.Get(r); v != want || e != api.OK {
			t.Error("register", r, v, e)
		}
	}
}

func TestCallLeavesWhatIsNotAParam(t *testing.T) {
	s := fresh(t, api.Module{Funcs: []api.Func{{Regs: 2}, {Params: 1, Regs: 3, Area: 8}}}, 128, nil, 0)
	s.Set(1, 6)
	for at := uint64(16); at < 112; at++ {
		s.Memory().Store(at, 1, 170)
	}
	s.Call(1, []int{1}, 0, 0)
	want := bytes.Repeat([]byte{170}, 96)
	copy(want[64:], []byte{6, 0, 0, 0, 0, 0, 0, 0})
	if got, _ := s.Memory().Bytes(16, 96); !bytes.Equal(got, want) || s.At() != 80 {
		t.Error(got, s.At())
	}
}

func TestCallsEndWithoutRoom(t *testing.T) {
	for _, x := range []struct{ memory, regs, area, data, deepest int }{
		{32, 1, 0, 0, 0}, {48, 1, 0, 0, 1}, {48, 1, 0, 1, 0}, {64, 1, 8, 1, 1}, {64, 1, 9, 0, 0}, {128, 3, 0, 16, 2}, {128, 3, 0, 17, 1}, {16 + 5*4608, 64, 4096, 0, 4}, {65_536, 64, 4096, 8192, 11},
		{16 + 16*256, 1, 0, 0, 255}, {32 + 16*256, 1, 0, 0, 256}, {48 + 16*256, 1, 0, 0, 256}, {65_536, 1, 0, 0, 256}, {65_536, 2, 0, 8192, 256},
	} {
		s := fresh(t, one(1, x.regs, x.area, x.data), x.memory, nil, 7)
		for depth := range x.deepest {
			s.Set(0, uint64(depth))
			if e := s.Call(0, []int{0}, 0, depth); e != api.OK || s.Depth() != depth+1 {
				t.Fatal(x, e, s.Depth())
			}
		}
		s.Go(3)
		before := looked(s)
		if e := s.Call(0, []int{0}, 0, 1); e != api.OK {
			t.Error(x, e)
		}
		if e, ended := s.End(); e != (api.Ending{Kind: api.EndStack}) || !ended || s.Depth() != x.deepest || s.Func() != 0 || s.Place() != 3 || s.Fuel() != 7 || s.At() != before.at {
			t.Error(x, e, ended, s.Depth(), s.Place(), s.At())
		}
		if after := looked(s); !bytes.Equal(after.memory, before.memory) {
			t.Error(x, "a call that does not fit stores something")
		}
		all(t, "a space out of stack", refusals(s), api.ErrState)
	}
}

func TestRefusedCallsDoNotEnd(t *testing.T) {
	s := fresh(t, one(0, 1, 0, 0), 32, nil, 0)
	if a, b := s.Call(0, nil, 1, 0), s.Call(0, []int{0}, 0, 0); a != api.ErrRange || b != api.ErrArg {
		t.Error(a, b)
	}
	if _, ended := s.End(); ended {
		t.Error("ended")
	}
}

func TestFunctionsWithoutFrames(t *testing.T) {
	s := fresh(t, api.Module{Funcs: []api.Func{{Regs: 1}, {}}}, 32, nil, 0)
	if e := s.Call(1, nil, 0, 8); e != api.OK || s.At() != 16 || s.Func() != 1 {
		t.Error(e, s.At(), s.Func())
	}
	if e := s.Call(1, nil, 0, 8); e != api.ErrRange {
		t.Error("it has no register for a result:", e)
	}
	if e := s.Return(4); e != api.OK || s.At() != 16 || s.Func() != 0 || s.Place() != 8 {
		t.Error(e, s.At(), s.Func(), s.Place())
	}
}

func TestReturnOfTheFirst(t *testing.T) {
	for _, v := range []uint64{0, 1, 255, 256, 257, 511, 1 << 32, 1<<63 + 5, math.MaxUint64, math.MaxUint64 - 255} {
		s := usual(t)
		s.Return(3)
		before := looked(s)
		if e := s.Return(v); e != api.OK {
			t.Error(v, e)
		}
		if e, ended := s.End(); e != (api.Ending{Kind: api.EndExit, Code: int(v % 256)}) || !ended {
			t.Error(v, e, ended)
		}
		after := looked(s)
		if !bytes.Equal(after.memory, before.memory) || after.at != before.at || after.place != before.place || after.function != before.function || after.depth != 0 {
			t.Error(v, "changes more")
		}
	}
}

// P15.5

func TestStop(t *testing.T) {
	valid := endings()
	for kind := -2; kind < 9; kind++ {
		for _, code := range []int{math.MinInt, -256, -1, 0, 1, 2, 3, 100, 255, 256, 257, 1 << 32, math.MaxInt} {
			s, want := usual(t), api.ErrArg
			e := api.Ending{Kind: kind, Code: code}
			if slices.Contains(valid, e) {
				want = api.OK
			}
			if got := s.Stop(e); got != want {
				t.Error(e, got)
			}
			got, ended := s.End()
			if ended != (want == api.OK) || ended && got != e || !ended && !s.Same(usual(t)) {
				t.Error(e, "ended", got, ended)
			}
		}
	}
}

func TestTheTape(t *testing.T) {
	s := fresh(t, made(), 64, []byte{0, 255}, 0)
	for i, want := range []int{0, 255, -1, -1} {
		if b, e := s.Getb(); b != want || e != api.OK {
			t.Error(i, b, e)
		}
	}
	for b, want := range map[int]int{0: 0, 255: 255, 256: 0, -1: 255, -256: 0, 1000: 232, math.MinInt: 0, math.MaxInt: 255} {
		if e := s.Putb(b); e != api.OK {
			t.Error(b, e)
		}
		done := s.Outcome().Deeds
		if last := done[len(done)-1]; last != (api.Deed{Kind: api.DeedPut, B: want}) {
			t.Error(b, last)
		}
	}
	if s.Fuel() != 0 || s.Place() != 0 {
		t.Error("the tape costs something")
	}
}

func TestTheTapeIsFull(t *testing.T) {
	s := fresh(t, made(), 64, []byte{4}, 0)
	for i := range 100_000 {
		if e := s.Putb(i); e != api.OK {
			t.Fatal(i, e)
		}
	}
	before := s.Copy()
	if b, e := s.Getb(); b != 0 || e != api.ErrFull {
		t.Error(b, e)
	}
	if e := s.Putb(1); e != api.ErrFull {
		t.Error(e)
	}
	if !s.Same(before) || len(s.Outcome().Deeds) != 100_000 {
		t.Error("changed")
	}
	if e := s.Set(0, 1); e != api.OK {
		t.Error("it runs on:", e)
	}
}

// P15.6

func TestLinksAreOutOfReachOfMemory(t *testing.T) {
	s := fresh(t, one(0, 3, 20, 40), 2048, nil, 0)
	places := []uint64{s.At()}
	for i := range 30 {
		s.Call(0, nil, i%3, 100+i)
		places = append(places, s.At())
	}
	for _, fill := range []uint64{math.MaxUint64, 0} {
		c := s.Copy()
		for at := uint64(16); at < 2048; at += 8 {
			if e := c.Memory().Store(at, 8, fill); e != api.OK {
				t.Fatal(at, e)
			}
		}
		for i := 29; i >= 0; i-- {
			if e := c.Return(uint64(i)); e != api.OK || c.Place() != 100+i || c.At() != places[i] || c.Func() != 0 || c.Depth() != i {
				t.Fatal(i, e, c.Place(), c.At(), c.Func(), c.Depth())
			}
			if v, e := c.Get(i % 3); v != uint64(i) || e != api.OK {
				t.Error(i, v, e)
			}
		}
	}
}

func TestACallAndAReturnLeaveTheRest(t *testing.T) {
	m := mixed(18)
	for range 300 {
		program := m.module()
		program.Funcs[0].Regs += 3
		s, e := space.New(program, 1024, nil, 50)
		if e != api.OK {
			t.Fatal(e)
		}
		for at := uint64(16); at < 1024; at++ {
			s.Memory().Store(at, 1, uint64(m.below(256)))
		}
		f := m.below(len(program.Funcs))
		result, v := m.below(3), m.number()
		var args []int
		for range program.Funcs[f].Params {
			args = append(args, m.below(3))
		}
		before := looked(s)
		a, b := s.Call(f, args, result, 77), s.Return(v)
		after := looked(s)
		low := int(before.at) - 16
		if a != api.OK || b != api.OK || after.place != 77 || after.registers[1+result] != v {
			t.Fatal(a, b, after)
		}
		for i := range 8 {
			before.memory[low+8*result+i] = byte(v >> (8 * i))
		}
		before.place, before.registers[1+result] = 77, v
		copy(before.memory[:low], after.memory[:low])
		if !reflect.DeepEqual(before, after) {
			t.Fatal("a call and a return change more")
		}
	}
}

func TestExamples(t *testing.T) {
	s := fresh(t, made(), 128, nil, 10)
	if s.At() != 112 || s.Depth() != 0 {
		t.Error(s.At(), s.Depth())
	}
	if v, e := s.Memory().Load(16, 1); v != 9 || e != api.OK {
		t.Error(v, e)
	}
	if a, b, c := s.Burn(11), s.Set(0, 7), s.Call(1, nil, 0, 0); a != api.ErrArg || b != api.OK || c != api.ErrArg {
		t.Error(a, b, c)
	}
	if _, e := s.Get(2); e != api.ErrRange {
		t.Error(e)
	}
	if e := s.Call(1, []int{0}, 1, 4); e != api.OK || s.At() != 80 || s.Func() != 1 || s.Depth() != 1 {
		t.Error(e, s.At(), s.Func(), s.Depth())
	}
	if v, e := s.Get(0); v != 7 || e != api.OK {
		t.Error(v, e)
	}
	if e := s.Return(5); e != api.OK || s.Func() != 0 || s.Place() != 4 || s.At() != 112 {
		t.Error(e, s.Func(), s.Place(), s.At())
	}
	if v, e := s.Get(1); v != 5 || e != api.OK {
		t.Error(v, e)
	}
	if e := s.Return(258); e != api.OK || s.Set(0, 1) != api.ErrState {
		t.Error(e)
	}
	if e, ended := s.End(); e != (api.Ending{Kind: api.EndExit, Code: 2}) || !ended {
		t.Error(e, ended)
	}
	if e, ended := fresh(t, made(), 32, nil, 0).End(); e != (api.Ending{Kind: api.EndStack}) || !ended {
		t.Error(e, ended)
	}
	if _, e := space.New(made(), 100, nil, 0); e != api.ErrArg {
		t.Error(e)
	}
	if _, e := space.New(made(), 16, nil, 0); e != api.ErrFull {
		t.Error(e)
	}
}
