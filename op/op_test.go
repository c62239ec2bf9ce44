package op_test

import (
	"math"
	"slices"
	"testing"

	"twinshaft/api"
	"twinshaft/op"
)

// none are numbers that no operation has.
func none() []int {
	return []int{math.MinInt, -1 << 32, -33, -1, 33, 34, 64, 255, 256, 1 << 32, 1<<32 + 3, math.MaxInt}
}

// full is an instruction of that operation with something in each field.
func full(number int) api.Ins {
	return api.Ins{Op: number, A: 5, B: 6, C: 7, N: 8, Args: []int{9, 10, 9}}
}

// P6.1

func TestNames(t *testing.T) {
	if len(rows()) != 33 || api.Ops != 33 {
		t.Fatal(len(rows()))
	}
	for n, r := range rows() {
		if numbered()[r.name] != n {
			t.Errorf("%s is %d in the list", r.name, n)
		}
		if got := op.Name(n); got != r.name {
			t.Errorf("Name(%d): %q, not %q", n, got, r.name)
		}
		if got := op.Find(r.name); got != n {
			t.Errorf("Find(%q): %d", r.name, got)
		}
		if got := op.Shape(n); got != r.shape {
			t.Errorf("Shape(%s): %q, not %q", r.name, got, r.shape)
		}
	}
}

func TestNumbersInApi(t *testing.T) {
	for name, n := range map[string]int{
		"nop": api.OpNop, "const": api.OpConst, "mov": api.OpMov, "add": api.OpAdd, "sub": api.OpSub, "mul": api.OpMul,
		"div": api.OpDiv, "divu": api.OpDivu, "rem": api.OpRem, "remu": api.OpRemu, "and": api.OpAnd, "or": api.OpOr,
		"xor": api.OpXor, "shl": api.OpShl, "shr": api.OpShr, "sar": api.OpSar, "lt": api.OpLt, "ltu": api.OpLtu,
		"eq": api.OpEq, "ne": api.OpNe, "ext": api.OpExt, "load": api.OpLoad, "store": api.OpStore, "lea": api.OpLea,
		"data": api.OpData, "jmp": api.OpJmp, "brz": api.OpBrz, "brnz": api.OpBrnz, "call": api.OpCall, "ret": api.OpRet,
		"getb": api.OpGetb, "putb": api.OpPutb, "exit": api.OpExit,
	} {
		if op.Find(name) != n || op.Name(n) != name {
			t.Errorf("%s is not %d", name, n)
		}
	}
}

func TestNoSuchOperation(t *testing.T) {
	for _, n := range none() {
		if op.Name(n) != "" || op.Shape(n) != "" {
			t.Errorf("%d: %q, %q", n, op.Name(n), op.Shape(n))
		}
	}
	for _, name := range []string{"", " ", "add ", " add", "Add", "ADD", "ad", "addd", "add\n", "add\x00", "wrr", "0", "3", "nop nop", "nöp", "\xff", "twinshaft"} {
		if n := op.Find(name); n != -1 {
			t.Errorf("Find(%q): %d", name, n)
		}
	}
}

func TestSame(t *testing.T) {
	for _, n := range append(none(), 0, 3, 28, 32) {
		a := full(n)
		if !op.Same(a, full(n)) || !op.Same(a, a) {
			t.Errorf("%d is not the same as itself", n)
		}
		for at, b := range []api.Ins{
			{Op: n ^ 1, A: 5, B: 6, C: 7, N: 8, Args: []int{9, 10, 9}},
			{Op: n, A: 4, B: 6, C: 7, N: 8, Args: []int{9, 10, 9}},
			{Op: n, A: 5, B: 5, C: 7, N: 8, Args: []int{9, 10, 9}},
			{Op: n, A: 5, B: 6, C: 6, N: 8, Args: []int{9, 10, 9}},
			{Op: n, A: 5, B: 6, C: 7, N: 7, Args: []int{9, 10, 9}},
			{Op: n, A: 5, B: 6, C: 7, N: 8, Args: []int{9, 10, 8}},
			{Op: n, A: 5, B: 6, C: 7, N: 8, Args: []int{9, 9, 10}},
			{Op: n, A: 5, B: 6, C: 7, N: 8, Args: []int{9, 10}},
			{Op: n, A: 5, B: 6, C: 7, N: 8, Args: []int{9, 10, 9, 0}},
			{Op: n, A: 5, B: 6, C: 7, N: 8},
			{Op: n, A: 6, B: 5, C: 7, N: 8, Args: []int{9, 10, 9}},
		} {
			if op.Same(a, b) || op.Same(b, a) {
				t.Errorf("%d: %+v is the same as %+v", at, a, b)
			}
		}
	}
	if !op.Same(api.Ins{Op: 3, Args: []int{}}, api.Ins{Op: 3}) || !op.Same(api.Ins{}, api.Ins{Args: make([]int, 0, 4)}) {
		t.Error("nil and empty lists are equal")
	}
	if !op.Same(api.Ins{}, api.Ins{}) || op.Same(api.Ins{}, api.Ins{Args: []int{0}}) {
		t.Error("no fields")
	}
	long := slices.Repeat([]int{-7}, 1000)
	if !op.Same(api.Ins{Args: long}, api.Ins{Args: slices.Clone(long)}) || op.Same(api.Ins{Args: long}, api.Ins{Args: long[1:]}) {
		t.Error("long lists")
	}
}

// P6.2

type checked struct {
	i          api.Ins
	regs, area int
	want       api.Errno
}

func hold(t *testing.T, all []checked) {
	t.Helper()
	for _, c := range all {
		if e := op.Check(c.i, c.regs, c.area); e != c.want {
			t.Errorf("%+v, %d, %d: %v, not %v", c.i, c.regs, c.area, e, c.want)
		}
	}
}

func TestCheckExamples(t *testing.T) {
	hold(t, []checked{
		{api.Ins{Op: api.OpAdd, B: 1, C: 2}, 3, 0, api.OK},
		{api.Ins{Op: api.OpAdd, B: 1, C: 3}, 3, 0, api.ErrRange},
		{api.Ins{Op: api.OpAdd, B: 1, C: 2, N: 1}, 3, 0, api.ErrArg},
		{api.Ins{Op: 33}, 3, 0, api.ErrIllegal},
		{api.Ins{Op: api.OpLoad, B: 1, N: 7}, 2, 0, api.OK},
		{api.Ins{Op: api.OpExt, B: 1, N: 7}, 2, 0, api.ErrRange},
		{api.Ins{Op: api.OpLea, N: 8}, 1, 8, api.OK},
		{api.Ins{Op: api.OpLea, N: 9}, 1, 8, api.ErrRange},
	})
}

func TestCheckFunctions(t *testing.T) {
	for _, n := range []int{math.MinInt, -1, 65, 66, 1 << 32, math.MaxInt} {
		hold(t, []checked{{api.Ins{}, n, 0, api.ErrArg}})
	}
	for _, n := range []int{math.MinInt, -1, 4097, 4098, 1 << 32, math.MaxInt} {
		hold(t, []checked{{api.Ins{}, 64, n, api.ErrArg}})
	}
	hold(t, []checked{
		{api.Ins{}, 0, 0, api.OK},
		{api.Ins{}, 64, 4096, api.OK},
		{api.Ins{}, 0, 4097, api.ErrArg},
		{api.Ins{}, 0, -1, api.ErrArg},
		{api.Ins{Op: api.OpJmp}, 0, 0, api.OK},
		{api.Ins{Op: api.OpRet}, 0, 0, api.ErrRange},
		{api.Ins{Op: api.OpRet}, 1, 0, api.OK},
		{api.Ins{Op: api.OpRet, A: 63}, 64, 0, api.OK},
		{api.Ins{Op: api.OpRet, A: 64}, 64, 0, api.ErrRange},
	})
}

func TestCheckRegisters(t *testing.T) {
	for n := range api.Ops {
		shape := rows()[n].shape
		good := sample(n)
		for at, field := range []string{"A", "B", "C"} {
			for reg, e := range map[int]api.Errno{0: api.OK, 3: api.OK, 4: api.ErrRange, 63: api.ErrRange, -1: api.ErrRange, math.MinInt: api.ErrRange, math.MaxInt: api.ErrRange, 1 << 32: api.ErrRange} {
				i := good
				*[]*int{&i.A, &i.B, &i.C}[at] = reg
				if at >= registersIn(shape) && reg != 0 {
					e = api.ErrArg
				}
				if got := op.Check(i, 4, 16); got != e {
					t.Errorf("%s with %s %d: %v, not %v", op.Name(n), field, reg, got, e)
				}
			}
		}
	}
}

func registersIn(shape string) int {
	many := 0
	for _, letter := range shape {
		if letter == 'w' || letter == 'r' {
			many++
		}
	}
	return many
}

// sample is a valid instruction of that operation, in a function with four registers and 16 bytes of area.
func sample(n int) api.Ins {
	i := api.Ins{Op: n}
	for _, letter := range rows()[n].shape {
		switch letter {
		case 'k', 'm', 'z':
			i.N = 1
		}
	}
	return i
}

func TestCheckNumbers(t *testing.T) {
	edges := map[string][2]int{"ext": {1, 6}, "load": {1, 7}, "lea": {0, 16}, "data": {0, 8192}, "jmp": {0, 4095}, "brz": {0, 4095}, "brnz": {0, 4095}, "call": {0, 63}, "const": {math.MinInt, math.MaxInt}}
	for n, r := range rows() {
		edge, named := edges[r.name]
		for _, number := range append(numbers(), edge[0], edge[1], 17, 10, -2) {
			i := sample(n)
			i.N = number
			e := api.OK
			switch {
			case r.name == "store":
				if !slices.Contains([]int{1, 2, 4, 8}, number) {
					e = api.ErrRange
				}
			case !named && number != 0:
				e = api.ErrArg
			case number < edge[0] || number > edge[1]:
				e = api.ErrRange
			}
			if got := op.Check(i, 4, 16); got != e {
				t.Errorf("%s with N %d: %v, not %v", r.name, number, got, e)
			}
		}
	}
}

func TestCheckArgs(t *testing.T) {
	for n, r := range rows() {
		for many := range 12 {
			i := sample(n)
			i.Args = make([]int, many)
			e := api.OK
			if many > 0 && r.name != "call" {
				e = api.ErrArg
			} else if many > 8 {
				e = api.ErrLong
			}
			if got := op.Check(i, 4, 16); got != e {
				t.Errorf("%s with %d Args: %v, not %v", r.name, many, got, e)
			}
		}
	}
	for at := range 8 {
		for reg, e := range map[int]api.Errno{0: api.OK, 3: api.OK, 4: api.ErrRange, -1: api.ErrRange, math.MinInt: api.ErrRange, math.MaxInt: api.ErrRange} {
			i := api.Ins{Op: api.OpCall, A: 1, N: 63, Args: make([]int, 8)}
			i.Args[at] = reg
			if got := op.Check(i, 4, 0); got != e {
				t.Errorf("argument %d is %d: %v, not %v", at, reg, got, e)
			}
		}
	}
	hold(t, []checked{
		{api.Ins{Op: api.OpNop, Args: []int{}}, 0, 0, api.OK},
		{api.Ins{Op: api.OpCall, Args: []int{3, 3, 3}}, 4, 0, api.OK},
	})
}

func TestCheckOrder(t *testing.T) {
	nine := make([]int, 9)
	hold(t, []checked{
		{api.Ins{Op: 33, A: 99, N: 1, Args: nine}, -1, -1, api.ErrIllegal},
		{api.Ins{Op: -1}, 65, 4097, api.ErrIllegal},
		{api.Ins{Op: api.OpCall, A: 99, N: 99, Args: nine}, 65, 0, api.ErrArg},
		{api.Ins{Op: api.OpCall, A: 99, N: 99, Args: nine}, 4, 4097, api.ErrArg},
		{api.Ins{Op: api.OpCall, A: 99, N: 99, B: 1, Args: nine}, 4, 0, api.ErrArg},
		{api.Ins{Op: api.OpCall, A: 99, N: 99, C: -1, Args: []int{99}}, 4, 0, api.ErrArg},
		{api.Ins{Op: api.OpCall, A: 99, N: 99, Args: []int{9, 9, 9, 9, 9, 9, 9, 9, 9}}, 4, 0, api.ErrLong},
		{api.Ins{Op: api.OpCall, N: 64, Args: nine}, 4, 0, api.ErrLong},
		{api.Ins{Op: api.OpAdd, A: 99, N: 1}, 4, 0, api.ErrArg},
		{api.Ins{Op: api.OpAdd, A: 99, Args: nine}, 4, 0, api.ErrArg},
		{api.Ins{Op: api.OpLoad, N: 8, C: 1}, 4, 0, api.ErrArg},
	})
}

// P6.3

func TestTellsExamples(t *testing.T) {
	store := api.Ins{Op: api.OpStore, A: 4, B: 5, N: 8}
	if !slices.Equal(op.Reads(store), []int{4, 5}) || op.Writes(store) != -1 {
		t.Error(op.Reads(store), op.Writes(store))
	}
	call := api.Ins{Op: api.OpCall, N: 2, Args: []int{3, 3}}
	if !slices.Equal(op.Reads(call), []int{3, 3}) || op.Writes(call) != 0 {
		t.Error(op.Reads(call), op.Writes(call))
	}
	brz := api.Ins{Op: api.OpBrz, A: 1, N: 40}
	if op.Target(brz) != 40 || !op.Falls(brz) || op.Falls(api.Ins{Op: api.OpJmp, N: 40}) {
		t.Error(op.Target(brz), op.Falls(brz))
	}
}

// told is what is told of an instruction with all fields, by the chapter's shapes written out.
type told struct {
	writes, target int
	falls          bool
	reads          []int
}

func TestTells(t *testing.T) {
	three := told{5, -1, true, []int{6, 7}}
	all := map[string]told{
		"nop": {-1, -1, true, nil}, "const": {5, -1, true, nil}, "mov": {5, -1, true, []int{6}},
		"ext": {5, -1, true, []int{6}}, "load": {5, -1, true, []int{6}}, "store": {-1, -1, true, []int{5, 6}},
		"lea": {5, -1, true, nil}, "data": {5, -1, true, nil},
		"jmp": {-1, 8, false, nil}, "brz": {-1, 8, true, []int{5}}, "brnz": {-1, 8, true, []int{5}},
		"call": {5, -1, true, []int{9, 10, 9}}, "ret": {-1, -1, false, []int{5}},
		"getb": {5, -1, true, nil}, "putb": {-1, -1, true, []int{5}}, "exit": {-1, -1, false, []int{5}},
	}
	for n, r := range rows() {
		w, other := all[r.name]
		if !other {
			w = three
		}
		i := full(n)
		if got := (told{op.Writes(i), op.Target(i), op.Falls(i), op.Reads(i)}); got.writes != w.writes || got.target != w.target || got.falls != w.falls || !slices.Equal(got.reads, w.reads) {
			t.Errorf("%s: %+v, not %+v", r.name, got, w)
		}
	}
	for _, n := range none() {
		i := full(n)
		if op.Writes(i) != -1 || len(op.Reads(i)) != 0 || op.Target(i) != -1 || op.Falls(i) {
			t.Errorf("%d: %d %v %d %v", n, op.Writes(i), op.Reads(i), op.Target(i), op.Falls(i))
		}
	}
}

func TestTellsAsItIs(t *testing.T) {
	i := api.Ins{Op: api.OpCall, A: -9, N: 999, Args: []int{64, -1, math.MinInt, math.MaxInt, 5, 5, 5, 5, 5, 5}}
	if op.Writes(i) != -9 || !slices.Equal(op.Reads(i), i.Args) || op.Target(i) != -1 {
		t.Error(op.Writes(i), op.Reads(i))
	}
	i = api.Ins{Op: api.OpStore, A: -9, B: math.MaxInt, C: 3}
	if !slices.Equal(op.Reads(i), []int{-9, math.MaxInt}) {
		t.Error(op.Reads(i))
	}
	for _, n := range []int{math.MinInt, -2, 0, 4096, math.MaxInt} {
		for _, number := range []int{api.OpJmp, api.OpBrz, api.OpBrnz} {
			if got := op.Target(api.Ins{Op: number, N: n}); got != n {
				t.Errorf("%d: %d, not %d", number, got, n)
			}
		}
	}
}

// P1 and the rules

func TestArgumentsStay(t *testing.T) {
	args := []int{1, 2, 3, 77, 78}
	i := api.Ins{Op: api.OpCall, Args: args[:3]}
	for range 2 {
		got := op.Reads(i)
		if !slices.Equal(got, []int{1, 2, 3}) {
			t.Fatal(got)
		}
		clear(got[:cap(got)])
		op.Check(i, 64, 0)
		op.Same(i, i)
		if !slices.Equal(args, []int{1, 2, 3, 77, 78}) || len(i.Args) != 3 {
			t.Fatal("changed", args)
		}
	}
	got := op.Reads(i)
	args[0] = 50
	if got[0] != 1 {
		t.Error("kept")
	}
}
