package interp_test

import (
	"reflect"
	"slices"
	"sync"
	"testing"

	"twinshaft/api"
	"twinshaft/interp"
	"twinshaft/space"
	"twinshaft/verify"
)

// of is an interpreter of a module.
func of(t *testing.T, m api.Module) *interp.Interp {
	t.Helper()
	x, e := interp.New(m)
	if x == nil || e != api.OK {
		t.Fatal("New:", m, x, e)
	}
	return x
}

func fresh(t *testing.T, m api.Module, memory int, in []byte, fuel int) *space.Space {
	t.Helper()
	s, e := space.New(m, memory, in, fuel)
	if s == nil || e != api.OK {
		t.Fatal("space.New:", memory, fuel, s, e)
	}
	return s
}

// one is the module of one function.
func one(regs int, l ...api.Ins) api.Module {
	return api.Module{Funcs: []api.Func{{Regs: regs, Code: l}}}
}

// echo is getb 0, putb 0, exit 0, at the places 0, 2 and 4.
func echo() api.Module {
	return one(1, api.Ins{Op: api.OpGetb}, api.Ins{Op: api.OpPutb}, api.Ins{Op: api.OpExit})
}

// calling is a module whose first function calls the second one, and exits with what that returns, which is what it is given.
func calling() api.Module {
	return api.Module{Funcs: []api.Func{
		{Regs: 2, Code: []api.Ins{{Op: api.OpConst, A: 1, N: 300}, {Op: api.OpCall, A: 0, N: 1, Args: []int{1}}, {Op: api.OpExit}}},
		{Params: 1, Regs: 1, Code: []api.Ins{{Op: api.OpRet}}},
	}}
}

// endless is a module whose only function calls itself.
func endless(area int) api.Module {
	m := one(1, api.Ins{Op: api.OpCall}, api.Ins{Op: api.OpRet})
	m.Funcs[0].Area = area
	return m
}

// invalid are interpreters that New did not return; one of them has all fields of one that it did.
func invalid(t *testing.T) []*interp.Interp {
	t.Helper()
	x := of(t, calling())
	x.Run(fresh(t, calling(), 64, nil, 9), 9)
	copied := reflect.New(reflect.TypeOf(x).Elem())
	copied.Elem().Set(reflect.ValueOf(x).Elem())
	return []*interp.Interp{nil, {}, copied.Interface().(*interp.Interp)}
}

// P16.1

func TestNewRefuses(t *testing.T) {
	exit := api.Ins{Op: api.OpExit}
	param := one(1, exit)
	param.Funcs[0].Params = 1
	long := echo()
	long.Data = make([]byte, 8193)
	for _, x := range []struct {
		m    api.Module
		want api.Errno
	}{
		{api.Module{}, api.ErrArg},
		{param, api.ErrArg},
		{long, api.ErrLong},
		{api.Module{Funcs: make([]api.Func, 65)}, api.ErrArg},
		{one(0, api.Ins{}), api.ErrForm},
		{one(0), api.ErrForm},
		{one(1, exit), api.ErrUnset},
		{one(1, api.Ins{Op: api.OpGetb}, api.Ins{Op: api.OpExit, A: 1}), api.ErrRange},
		{one(0, api.Ins{Op: api.OpJmp, N: 1}), api.ErrTarget},
		{one(1, api.Ins{Op: api.OpCall, N: 1}, exit), api.ErrTarget},
		{one(1, api.Ins{Op: api.OpGetb}, api.Ins{Op: api.OpCall, Args: []int{0}}, exit), api.ErrArg},
		{one(1, api.Ins{Op: api.OpData, N: 1}, exit), api.ErrRange},
		{one(1, api.Ins{Op: 33}, exit), api.ErrIllegal},
		{one(1, slices.Repeat([]api.Ins{{Op: api.OpJmp}}, 1366)...), api.ErrLong},
	} {
		if got, e := interp.New(x.m); got != nil || e != x.want {
			t.Error(x.m, "is", e, "not", x.want)
		}
	}
}

func TestNewAsVerify(t *testing.T) {
	m := mixed(1)
	met := map[api.Errno]int{}
	for range 4000 {
		program := m.module()
		f := &program.Funcs[m.below(len(program.Funcs))]
		i := &f.Code[m.below(len(f.Code))]
		*[]*int{&i.A, &i.B, &i.C, &i.N, &i.Op, &f.Regs, &f.Params}[m.below(7)] = m.below(12)
		want := verify.Check(program)
		got, e := interp.New(program)
		if e != want || (got == nil) != (e != api.OK) {
			t.Fatal(program, e, want)
		}
		met[e]++
	}
	for _, e := range []api.Errno{api.OK, api.ErrArg, api.ErrRange, api.ErrForm, api.ErrTarget, api.ErrUnset} {
		if met[e] < 20 {
			t.Error("too few", e, met[e])
		}
	}
}

func TestIns(t *testing.T) {
	m := mixed(2)
	for range 300 {
		program := m.module()
		x := of(t, program)
		for f, fn := range program.Funcs {
			places := placesOf(fn.Code)
			for place := -2; place < places[len(fn.Code)]+3; place++ {
				got, after, is := x.Ins(f, place)
				n := slices.Index(places[:len(fn.Code)], place)
				if n < 0 {
					if is || after != 0 || !reflect.DeepEqual(got, api.Ins{}) {
						t.Fatal(program, f, place, got, after, is)
					}
					continue
				}
				if want := fn.Code[n]; !is || after != places[n+1] || !reflect.DeepEqual(got, want) {
					t.Fatal(program, f, place, got, after, is, "not", want)
				}
			}
		}
	}
}

func TestInsOfNoFunction(t *testing.T) {
	x := of(t, calling())
	for _, f := range []int{-1, 2, 63, 64, 1 << 40, -1 << 63} {
		for _, place := range []int{0, 10, 4096, -1 << 63} {
			if got, after, is := x.Ins(f, place); is || after != 0 || !reflect.DeepEqual(got, api.Ins{}) {
				t.Error(f, place, got, after, is)
			}
		}
	}
	for _, place := range []int{1, 9, 11, 14, 16, 17, 4095, 4096, 1<<63 - 1} {
		if got, after, is := x.Ins(0, place); is || after != 0 || !reflect.DeepEqual(got, api.Ins{}) {
			t.Error(place, got, after, is)
		}
	}
}

// TestInsOfFullCode has the greatest place that there is, and the end after it.
func TestInsOfFullCode(t *testing.T) {
	x := of(t, one(1, append(slices.Repeat([]api.Ins{{}}, 4092), api.Ins{Op: api.OpGetb}, api.Ins{Op: api.OpExit})...))
	if i, after, is := x.Ins(0, 4094); i.Op != api.OpExit || after != 4096 || !is {
		t.Error(i, after, is)
	}
}

// TestNothingIsShared changes all that was passed and returned.
func TestNothingIsShared(t *testing.T) {
	m, pristine := calling(), calling()
	m.Funcs[0].Code[1].Args = append(make([]int, 0, 9), m.Funcs[0].Code[1].Args...)
	x := of(t, m)
	if !reflect.DeepEqual(m, pristine) {
		t.Error("New changes the module")
	}
	m.Funcs[0].Code[1].Args[0] = 0
	m.Funcs[0].Code[2].Op = api.OpRet
	m.Funcs[1].Regs = 7
	m.Funcs[1] = api.Func{}
	got, _, _ := x.Ins(0, 10)
	if !slices.Equal(got.Args, []int{1}) {
		t.Error("New keeps the module:", got)
	}
	got.Args[0] = 0
	if again, _, _ := x.Ins(0, 10); !slices.Equal(again.Args, []int{1}) {
		t.Error("Ins returns what it keeps:", again)
	}
	s := fresh(t, pristine, 64, nil, 9)
	if n, e := x.Run(s, 9); n != 4 || e != api.OK || s.Outcome().End != (api.Ending{Kind: api.EndExit, Code: 44}) {
		t.Error(n, e, s.Outcome())
	}
}

func TestCalls(t *testing.T) {
	x, other := of(t, calling()), of(t, calling())
	for n := range 5 {
		s := fresh(t, calling(), 64, nil, 9)
		x.Run(s, 1)
		if x.Calls(0) != 0 || x.Calls(1) != n {
			t.Error("ahead of the call", n, x.Calls(0), x.Calls(1))
		}
		x.Run(s, 1)
		if x.Calls(0) != 0 || x.Calls(1) != n+1 {
			t.Error("after the call", n, x.Calls(0), x.Calls(1))
		}
		x.Run(s, 9)
	}
	for _, f := range []int{-1, 2, 63, 64, 65, 1 << 40, -1 << 63} {
		if x.Calls(f) != 0 {
			t.Error(f, "was called")
		}
	}
	if x.Calls(0) != 0 || x.Calls(1) != 5 || other.Calls(1) != 0 {
		t.Error(x.Calls(0), x.Calls(1), other.Calls(1))
	}
	// A call that is not of a step is not counted, nor is one for which there is no fuel.
	s := fresh(t, calling(), 64, nil, 1)
	s.Call(1, []int{0}, 0, 0)
	s.Return(0)
	if n, e := x.Run(s, 9); n != 2 || e != api.OK || x.Calls(1) != 5 {
		t.Error(n, e, x.Calls(1))
	}
}

func TestCallsThatEnd(t *testing.T) {
	for _, c := range []struct{ memory, area, calls int }{
		{32, 0, 1}, {48, 0, 2}, {64, 0, 3}, {64, 40, 1}, {16 + 256*16, 0, 256}, {16 + 257*16, 0, 257}, {65_536, 0, 257}, {65_536, 4088, 15},
	} {
		m := endless(c.area)
		x, s := of(t, m), fresh(t, m, c.memory, nil, 1000)
		n, e := x.Run(s, 1000)
		if end, ended := s.End(); n != c.calls || e != api.OK || !ended || end != (api.Ending{Kind: api.EndStack}) {
			t.Error(c, n, e, end)
		}
		if x.Calls(0) != c.calls || s.Depth() != c.calls-1 || s.Fuel() != 1000-c.calls || s.Place() != 0 {
			t.Error(c, x.Calls(0), s.Depth(), s.Fuel(), s.Place())
		}
	}
}

func TestCallsOfGoroutines(t *testing.T) {
	const goroutines, runs = 8, 200
	x := of(t, calling())
	all := make([][]*space.Space, goroutines)
	for g := range all {
		for range runs {
			all[g] = append(all[g], fresh(t, calling(), 64, nil, 9))
		}
	}
	var joined sync.WaitGroup
	for _, own := range all {
		joined.Go(func() {
			for _, s := range own {
				x.Run(s, 9)
			}
		})
	}
	joined.Wait()
	if x.Calls(0) != 0 || x.Calls(1) != goroutines*runs {
		t.Error(x.Calls(0), x.Calls(1))
	}
}

func TestInvalidInterps(t *testing.T) {
	for n, x := range invalid(t) {
		s := fresh(t, calling(), 64, nil, 9)
		ended := s.Copy()
		ended.Stop(api.Ending{Kind: api.EndFuel})
		nowhere := s.Copy()
		nowhere.Go(1)
		for k, s := range []*space.Space{s, ended, nowhere, nil, {}} {
			before := looked(s.Copy())
			if e := x.Step(s); e != api.ErrNil {
				t.Error(n, k, "Step:", e)
			}
			for _, most := range []int{-1, 0, 1, 9} {
				if done, e := x.Run(s, most); done != 0 || e != api.ErrNil {
					t.Error(n, k, "Run:", done, e)
				}
			}
			if !reflect.DeepEqual(looked(s), before) {
				t.Error(n, k, "changes the space")
			}
		}
		for f := -1; f < 66; f++ {
			if x.Calls(f) != 0 {
				t.Error(n, f, x.Calls(f))
			}
			if i, after, is := x.Ins(f, 0); is || after != 0 || !reflect.DeepEqual(i, api.Ins{}) {
				t.Error(n, f, i, after, is)
			}
		}
	}
}
