package verify_test

import (
	"fmt"
	"math"
	"reflect"
	"slices"
	"testing"

	"twinshaft/api"
	"twinshaft/verify"
)

func get(r int) api.Ins { return api.Ins{Op: api.OpGetb, A: r} }

func put(r int) api.Ins { return api.Ins{Op: api.OpPutb, A: r} }

func exit(r int) api.Ins { return api.Ins{Op: api.OpExit, A: r} }

func ret(r int) api.Ins { return api.Ins{Op: api.OpRet, A: r} }

func jmp(place int) api.Ins { return api.Ins{Op: api.OpJmp, N: place} }

func brz(r, place int) api.Ins { return api.Ins{Op: api.OpBrz, A: r, N: place} }

func set(r int) api.Ins { return api.Ins{Op: api.OpConst, A: r, N: 5} }

func data(r, n int) api.Ins { return api.Ins{Op: api.OpData, A: r, N: n} }

func call(to, f int, args ...int) api.Ins {
	return api.Ins{Op: api.OpCall, A: to, N: f, Args: args}
}

// function is one with as many registers as there are.
func function(params int, l ...api.Ins) api.Func {
	return api.Func{Params: params, Regs: api.MaxRegs, Code: l}
}

// small is one with few registers.
func small(params, regs int, l ...api.Ins) api.Func {
	return api.Func{Params: params, Regs: regs, Code: l}
}

func of(l ...api.Func) api.Module { return api.Module{Funcs: l} }

// with is a module with so many bytes of data.
func with(bytes int, l ...api.Func) api.Module {
	return api.Module{Data: make([]byte, bytes), Funcs: l}
}

// good is a function that is accepted by itself.
func good() api.Func { return function(0, get(0), exit(0)) }

// taking is a function that is accepted behind another one.
func taking(params int) api.Func { return function(params, set(60), ret(60)) }

// brief is the beginning of a module's text.
func brief(m api.Module) string {
	text := fmt.Sprint(m)
	return text[:min(len(text), 400)]
}

// finds wants Find to tell that place and error, and Check that error.
func finds(t *testing.T, m api.Module, function, instruction int, want api.Errno) {
	t.Helper()
	f, i, e := verify.Find(m)
	if f != function || i != instruction || e != want {
		t.Errorf("Find(%s) is %d %d %v, not %d %d %v", brief(m), f, i, e, function, instruction, want)
	}
	if e := verify.Check(m); e != want {
		t.Errorf("Check(%s) is %v, not %v", brief(m), e, want)
	}
}

func accepts(t *testing.T, m api.Module) {
	t.Helper()
	finds(t, m, -1, -1, api.OK)
}

func TestTheExamples(t *testing.T) {
	accepts(t, of(small(0, 1, get(0), exit(0))))
	finds(t, of(small(1, 1, get(0), exit(0))), 0, -1, api.ErrArg)
	finds(t, of(small(0, 1, exit(0))), 0, 0, api.ErrUnset)
	finds(t, of(small(0, 1, api.Ins{})), 0, -1, api.ErrForm)
	finds(t, of(small(0, 1, call(0, 1), exit(0))), 0, 0, api.ErrTarget)
	finds(t, of(), -1, -1, api.ErrArg)
	finds(t, of(small(0, 1, data(0, 1), exit(0))), 0, 0, api.ErrRange)
	finds(t, of(small(0, 1, call(0, 1), exit(0)), small(1, 1, ret(0))), 0, 0, api.ErrArg)
}

func TestExamplesOfTheWhole(t *testing.T) {
	accepts(t, of(small(0, 1, get(0), put(0), exit(0))))
	div := api.Ins{Op: api.OpDiv, A: 0, B: 0, C: 1}
	accepts(t, of(small(0, 2, api.Ins{Op: api.OpConst, N: 7}, api.Ins{Op: api.OpConst, A: 1}, div, exit(0))))
	accepts(t, of(small(0, 0, jmp(0))))
	finds(t, of(small(0, 1, exit(0))), 0, 0, api.ErrUnset)
}

// P12.1: the module

func TestErrorsOfModule(t *testing.T) {
	nine := make([]int, 9)
	for want, modules := range map[api.Errno][]api.Module{
		api.ErrLong: {
			with(api.MaxData+1, good()),
			with(api.MaxData + 1),
			of(function(0, call(0, 0, nine...), exit(0))),
			of(function(0, append(slices.Repeat([]api.Ins{{}}, api.MaxCode), exit(0))...)),
			of(good(), function(0, slices.Repeat([]api.Ins{get(0)}, api.MaxCode/2+1)...)),
		},
		api.ErrArg: {
			of(),
			of(slices.Repeat([]api.Func{good()}, api.MaxFuncs+1)...),
			of(function(9, ret(0))),
			of(function(-1, ret(0))),
			of(function(math.MaxInt, ret(0))),
			of(small(2, 1, ret(0))),
			of(small(0, 65, get(0), exit(0))),
			of(small(0, -1, get(0), exit(0))),
			of(api.Func{Regs: 1, Area: 4097, Code: good().Code}),
			of(api.Func{Regs: 1, Area: -1, Code: good().Code}),
			of(function(0, api.Ins{Op: api.OpNop, N: 1}, jmp(0))),
			of(good(), small(2, 1, ret(0))),
		},
		api.ErrIllegal: {
			of(function(0, api.Ins{Op: 33})),
			of(function(0, api.Ins{Op: -1})),
			of(good(), good(), function(0, jmp(0), api.Ins{Op: math.MinInt})),
		},
		api.ErrRange: {
			of(small(0, 1, get(1), exit(1))),
			of(small(0, 0, exit(0))),
			of(function(0, get(64), exit(64))),
			of(function(0, get(-1), exit(0))),
			of(function(0, jmp(4096))),
			of(function(0, jmp(-1))),
			of(function(0, call(0, 64), exit(0))),
			of(function(0, call(0, -1), exit(0))),
			with(api.MaxData, function(0, data(0, api.MaxData+1), exit(0))),
			with(8, function(0, data(0, -1), exit(0))),
			of(function(0, api.Ins{Op: api.OpLea, N: 1}, exit(0))),
			of(good(), small(0, 1, get(1), exit(1))),
		},
	} {
		for _, m := range modules {
			finds(t, m, -1, -1, want)
		}
	}
}

// TestErrorsOfModuleComeFirst has what is wrong otherwise before what makes a module invalid.
func TestErrorsOfModuleComeFirst(t *testing.T) {
	invalid := function(0, get(64), exit(0))
	for _, first := range []api.Func{
		taking(1),
		function(0),
		function(0, jmp(1)),
		function(0, get(0)),
		function(0, call(0, 9), exit(0)),
		function(0, call(0, 0, 0), exit(0)),
		function(0, data(0, 9), exit(0)),
		function(0, exit(0)),
	} {
		finds(t, of(first, invalid), -1, -1, api.ErrRange)
		finds(t, with(api.MaxData+1, first), -1, -1, api.ErrLong)
		finds(t, of(slices.Repeat([]api.Func{first}, 65)...), -1, -1, api.ErrArg)
	}
}

func TestFirstFunctionTakesNothing(t *testing.T) {
	for params := 1; params <= api.MaxArgs; params++ {
		finds(t, of(taking(params)), 0, -1, api.ErrArg)
		finds(t, of(small(params, params, ret(0))), 0, -1, api.ErrArg)
		finds(t, of(function(params), good()), 0, -1, api.ErrArg)
		finds(t, of(function(params, exit(9)), function(0)), 0, -1, api.ErrArg)
		finds(t, of(function(params, call(0, 9), exit(0))), 0, -1, api.ErrArg)
		accepts(t, of(good(), taking(params)))
	}
}

// P12.1: the functions

func TestErrorsOfFlow(t *testing.T) {
	for want, functions := range map[api.Errno][]api.Func{
		api.ErrForm: {
			function(0),
			small(0, 0),
			small(0, 0, api.Ins{}),
			function(0, get(0)),
			function(0, jmp(0), brz(0, 0)),
			function(0, get(0), call(0, 0)),
			function(0, slices.Repeat([]api.Ins{{}}, api.MaxCode)...),
		},
		api.ErrTarget: {
			small(0, 0, jmp(1)),
			function(0, get(0), jmp(1)),
			function(0, get(0), brz(0, 7), exit(0)),
			function(0, get(0), exit(0), jmp(4095)),
		},
	} {
		for _, f := range functions {
			finds(t, of(f), 0, -1, want)
			finds(t, of(f, f), 0, -1, want)
			finds(t, of(f, good()), 0, -1, want)
			finds(t, of(good(), f), 1, -1, want)
			finds(t, of(good(), taking(3), f, good()), 2, -1, want)
			finds(t, of(append(slices.Repeat([]api.Func{good()}, 63), f)...), 63, -1, want)
		}
	}
}

// TestErrorsOfFlowComeBeforeThoseOfInstructions has both in one function.
func TestErrorsOfFlowComeBeforeThoseOfInstructions(t *testing.T) {
	for _, i := range []api.Ins{call(0, 63), call(0, 0, 0), data(0, 1), put(0)} {
		finds(t, of(function(0, i)), 0, -1, api.ErrForm)
		finds(t, of(function(0, i, jmp(1))), 0, -1, api.ErrTarget)
		finds(t, of(good(), function(0, i, exit(0), api.Ins{})), 1, -1, api.ErrForm)
	}
}

// P12.1: the instructions

func TestCallsOfFunctionsThatDoNotExist(t *testing.T) {
	for many := 1; many <= api.MaxFuncs; many++ {
		others := slices.Repeat([]api.Func{good()}, many-1)
		for f := range api.MaxFuncs {
			m := of(append([]api.Func{function(0, get(1), call(0, f), exit(0))}, others...)...)
			if f < many {
				accepts(t, m)
			} else {
				finds(t, m, 0, 1, api.ErrTarget)
			}
		}
	}
	last := function(0, get(0), call(0, 62), call(0, 63), exit(0))
	accepts(t, of(append(slices.Repeat([]api.Func{good()}, 63), last)...))
	finds(t, of(append(slices.Repeat([]api.Func{good()}, 62), last)...), 62, 2, api.ErrTarget)
}

func TestArgsAreAsManyAsParams(t *testing.T) {
	for params := range api.MaxArgs + 1 {
		for args := range api.MaxArgs + 1 {
			l := []api.Ins{get(7), call(1, 2, slices.Repeat([]int{7}, args)...), exit(1)}
			m := of(good(), function(0, l...), taking(params))
			if args == params {
				accepts(t, m)
			} else {
				finds(t, m, 1, 1, api.ErrArg)
			}
		}
	}
}

// TestCallsOfAnyFunction has calls of itself, of one before and of one behind, each with the right number and with another one.
func TestCallsOfAnyFunction(t *testing.T) {
	args := []int{0, 0, 0}
	for caller := range 4 {
		for called := range 4 {
			for many := range 4 {
				l := []api.Func{good(), taking(1), taking(2), taking(3)}
				l[caller].Code = []api.Ins{get(0), call(5, called, args[:many]...), ret(5)}
				if many == called {
					accepts(t, of(l...))
				} else {
					finds(t, of(l...), caller, 1, api.ErrArg)
				}
			}
		}
	}
}

func TestDataUpToItsEnd(t *testing.T) {
	for _, bytes := range []int{0, 1, 2, 7, 8, 9, 255, 256, api.MaxData - 1, api.MaxData} {
		for _, place := range []int{0, 1, 2, 3, 7, 8, 9, 10, 254, 255, 256, 257, api.MaxData - 2, api.MaxData - 1, api.MaxData} {
			m := with(bytes, good(), function(0, get(1), data(0, place), exit(0)))
			if place <= bytes {
				accepts(t, m)
			} else {
				finds(t, m, 1, 1, api.ErrRange)
			}
		}
	}
}

// TestOnlyDataAndCallsAreAsked has great numbers in other instructions.
func TestOnlyDataAndCallsAreAsked(t *testing.T) {
	long := slices.Repeat([]api.Ins{get(0)}, 100)
	accepts(t, of(function(0, append(long, brz(0, 198), jmp(196))...)))
	accepts(t, of(function(0, api.Ins{Op: api.OpConst, N: math.MaxInt}, exit(0))))
	accepts(t, of(api.Func{Regs: 1, Area: 4096, Code: []api.Ins{{Op: api.OpLea, N: 4096}, exit(0)}}))
	accepts(t, of(function(0, get(0), api.Ins{Op: api.OpLoad, B: 0, N: api.KindAll}, api.Ins{Op: api.OpStore, N: 8}, api.Ins{Op: api.OpExt, N: 6}, exit(0))))
}

// TestFirstWrongInstruction has two that are wrong, each in its way; the one that comes first is told, whatever is wrong with it.
func TestFirstWrongInstruction(t *testing.T) {
	wrong := map[api.Errno]api.Ins{api.ErrTarget: call(0, 2), api.ErrArg: call(0, 1), api.ErrRange: data(0, 3)}
	for first, one := range wrong {
		for _, two := range wrong {
			for before := range 3 {
				l := append(slices.Repeat([]api.Ins{get(0)}, before), one, get(0), two, exit(0))
				finds(t, with(2, function(0, l...), taking(1)), 0, before, first)
				finds(t, with(2, good(), function(1, l...)), 1, before, first)
			}
		}
	}
	finds(t, of(function(0, call(0, 1, 9, 9, 9), exit(0))), 0, 0, api.ErrTarget)
}

// TestWrongWhereNobodyComes has instructions that are not reached, and functions that nobody calls.
func TestWrongWhereNobodyComes(t *testing.T) {
	for want, i := range map[api.Errno]api.Ins{api.ErrTarget: call(0, 2), api.ErrArg: call(0, 1), api.ErrRange: data(0, 3)} {
		finds(t, with(2, function(0, get(0), exit(0), i, exit(0)), taking(1)), 0, 2, want)
		finds(t, with(2, good(), function(1, ret(0), ret(0), ret(0), i, ret(0))), 1, 3, want)
	}
	// What is not reached reads nothing that is not sure.
	accepts(t, of(function(0, get(0), exit(0), put(9), exit(8))))
	finds(t, of(good(), function(0, exit(1))), 1, 0, api.ErrUnset)
}

func TestReadsOfWhatIsNotSure(t *testing.T) {
	finds(t, of(function(0, get(0), put(0), put(1), exit(0))), 0, 2, api.ErrUnset)
	finds(t, of(function(0, get(0), brz(0, 10), get(1), put(1), exit(1))), 0, 4, api.ErrUnset)
	finds(t, of(function(0, get(63), exit(62))), 0, 1, api.ErrUnset)
	accepts(t, of(function(0, get(0), brz(0, 11), get(1), jmp(13), get(1), exit(1))))
	for params := range api.MaxArgs + 1 {
		for r := range 10 {
			m := of(good(), small(params, 10, api.Ins{}, ret(r)))
			if r < params {
				accepts(t, m)
			} else {
				finds(t, m, 1, 1, api.ErrUnset)
			}
		}
	}
}

// TestReadsComeAfterAllInstructions has what is not sure before what is wrong otherwise, and behind it.
func TestReadsComeAfterAllInstructions(t *testing.T) {
	for want, i := range map[api.Errno]api.Ins{api.ErrTarget: call(0, 2), api.ErrArg: call(0, 1), api.ErrRange: data(0, 3)} {
		finds(t, with(2, function(0, put(0), get(0), i, exit(0)), taking(1)), 0, 2, want)
		finds(t, with(2, function(0, i, exit(9)), taking(1)), 0, 0, want)
		i.Args = slices.Repeat([]int{9}, len(i.Args))
		finds(t, with(2, good(), function(1, exit(8), i, exit(9))), 1, 1, want)
	}
	finds(t, of(function(0, call(0, 1, 9, 9), exit(0)), taking(1)), 0, 0, api.ErrArg)
	finds(t, of(function(0, call(0, 1, 9), exit(0)), taking(1)), 0, 0, api.ErrUnset)
}

// TestFunctionByFunction has two functions that are wrong, each in its way.
func TestFunctionByFunction(t *testing.T) {
	type wrong struct {
		code []api.Ins
		at   int
		e    api.Errno
	}
	all := []wrong{
		{nil, -1, api.ErrForm},
		{[]api.Ins{jmp(1)}, -1, api.ErrTarget},
		{[]api.Ins{{}, call(0, 9), exit(0)}, 1, api.ErrTarget},
		{[]api.Ins{{}, {}, call(0, 0, 1), exit(0)}, 2, api.ErrArg},
		{[]api.Ins{get(0), {}, {}, data(0, 6), exit(0)}, 3, api.ErrRange},
		{[]api.Ins{get(0), {}, {}, {}, exit(5)}, 4, api.ErrUnset},
	}
	for _, one := range all {
		for _, two := range all {
			f, g := function(0, one.code...), function(0, two.code...)
			finds(t, with(5, f, g), 0, one.at, one.e)
			finds(t, with(5, g, f), 0, two.at, two.e)
			finds(t, with(5, good(), f, taking(4), g, good()), 1, one.at, one.e)
			finds(t, with(5, good(), taking(8), taking(4), g, good(), f), 3, two.at, two.e)
		}
	}
}

// DOC.md's rule 4

// TestModulesAreNotChanged has lists with spare capacity, too.
func TestModulesAreNotChanged(t *testing.T) {
	build := func() (api.Module, []byte, []api.Func, []api.Ins, []int) {
		bytes, functions, code, args := []byte{1, 2, 3, 9}, make([]api.Func, 3), make([]api.Ins, 5), []int{0, 0, 7}
		functions[2], code[4] = taking(7), put(9)
		copy(code, []api.Ins{get(0), call(1, 1, args[:2]...), data(0, 3), exit(1)})
		copy(functions, []api.Func{function(0, code[:4]...), taking(2)})
		return api.Module{Data: bytes[:3], Funcs: functions[:2]}, bytes, functions, code, args
	}
	m, bytes, functions, code, args := build()
	_, bytes2, functions2, code2, args2 := build()
	for range 2 {
		accepts(t, m)
		if !reflect.DeepEqual([]any{bytes, functions, code, args}, []any{bytes2, functions2, code2, args2}) {
			t.Error("the module is another one now")
		}
	}
	code[3].A = 9
	finds(t, m, 0, 3, api.ErrUnset)
	args[1] = 8
	finds(t, m, 0, 1, api.ErrUnset)
	m.Data = bytes[:2]
	finds(t, m, 0, 2, api.ErrRange)
	m.Funcs = functions[:3]
	finds(t, m, 0, 2, api.ErrRange)
}
