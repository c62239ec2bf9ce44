package text_test

import (
	"fmt"
	"math"
	"slices"
	"strings"
	"testing"

	"twinshaft/api"
	"twinshaft/module"
	"twinshaft/text"
)

func of(l ...api.Func) api.Module { return api.Module{Funcs: l} }

// function is one with as many registers and bytes of area as there may be.
func function(l ...api.Ins) api.Func {
	return api.Func{Regs: api.MaxRegs, Area: api.MaxFrame, Code: l}
}

// chapter is the module of the chapter's examples.
func chapter() api.Module {
	l := []api.Ins{{Op: api.OpGetb}, {Op: api.OpCall, A: 1}, {Op: api.OpExit}}
	return api.Module{Data: []byte{2, 7}, Funcs: []api.Func{{Regs: 2, Area: 8, Code: l}}}
}

const chapterText = "bytes 2 7\nfunc 0 2 8\n  getb 0\n  call 1 0\n  exit 0\n"

// lines are a text of these lines, each with a byte 10 behind it.
func lines(l ...string) string {
	var out string
	for _, line := range l {
		out += line + "\n"
	}
	return out
}

// brief is the beginning of something.
func brief(x any) string {
	out := fmt.Sprintf("%+q", x)
	return out[:min(len(out), 300)]
}

func reads(t *testing.T, s string, want api.Module) {
	t.Helper()
	if m, f := text.Get(s); f != (api.Fault{}) || !module.Same(m, want) {
		t.Errorf("Get(%s) is %s %v, not %s", brief(s), brief(m), f, brief(want))
	}
}

func refuses(t *testing.T, s string, e api.Errno, at int) {
	t.Helper()
	m, f := text.Get(s)
	if f != (api.Fault{Err: e, At: at}) {
		t.Errorf("Get(%s) is %v, not %v at %d", brief(s), f, e, at)
	}
	if len(m.Data) != 0 || len(m.Funcs) != 0 {
		t.Errorf("Get(%s) is refused, but is %s", brief(s), brief(m))
	}
}

func puts(t *testing.T, m api.Module, want string) {
	t.Helper()
	if s, e := text.Put(m); e != api.OK || s != want {
		t.Errorf("Put(%s) is %s %v, not %s", brief(m), brief(s), e, brief(want))
	}
}

func TestTheExamples(t *testing.T) {
	puts(t, chapter(), chapterText)
	reads(t, chapterText, chapter())
	refuses(t, "", api.ErrArg, 0)
	refuses(t, "add 0 1 2", api.ErrForm, 0)
	refuses(t, "func 0 1 0\nexit 0 0", api.ErrForm, 11)
	refuses(t, "func 0 1 x", api.ErrRange, 0)
}

// P13.1

// full is an instruction that has each field.
func full(op int) api.Ins {
	return api.Ins{Op: op, A: 11, B: 22, C: 33, N: -44, Args: []int{55, 66, 77}}
}

// fullLines are the lines of the full instructions, in the order of their operations.
func fullLines() []string {
	return []string{
		"nop", "const 11 -44", "mov 11 22",
		"add 11 22 33", "sub 11 22 33", "mul 11 22 33", "div 11 22 33", "divu 11 22 33", "rem 11 22 33", "remu 11 22 33",
		"and 11 22 33", "or 11 22 33", "xor 11 22 33", "shl 11 22 33", "shr 11 22 33", "sar 11 22 33",
		"lt 11 22 33", "ltu 11 22 33", "eq 11 22 33", "ne 11 22 33",
		"ext 11 22 -44", "load 11 22 -44", "store 11 22 -44", "lea 11 -44", "data 11 -44",
		"jmp -44", "brz 11 -44", "brnz 11 -44", "call 11 -44 55 66 77", "ret 11", "getb 11", "putb 11", "exit 11",
	}
}

func TestInsOfEachOperation(t *testing.T) {
	all := fullLines()
	if len(all) != api.Ops {
		t.Fatal(len(all))
	}
	for op, want := range all {
		if line := text.Ins(full(op)); line != want {
			t.Errorf("Ins of %d is %q, not %q", op, line, want)
		}
	}
	for _, op := range []int{-1, 33, 34, 99, 255, 256, math.MinInt, math.MaxInt} {
		if line := text.Ins(full(op)); line != "" {
			t.Errorf("Ins of %d is %q", op, line)
		}
	}
}

// TestInsOfAnyFields has instructions that are not valid, too.
func TestInsOfAnyFields(t *testing.T) {
	for want, i := range map[string]api.Ins{
		"add 0 1 2":                        {Op: api.OpAdd, B: 1, C: 2},
		"add -1 64 9223372036854775807":    {Op: api.OpAdd, A: -1, B: 64, C: math.MaxInt, N: 5},
		"const 0 -9223372036854775808":     {Op: api.OpConst, N: math.MinInt},
		"const 63 9223372036854775807":     {Op: api.OpConst, A: 63, N: math.MaxInt},
		"call 3 5 1 2":                     {Op: api.OpCall, A: 3, N: 5, Args: []int{1, 2}},
		"call 0 0":                         {Op: api.OpCall},
		"call 0 0 0":                       {Op: api.OpCall, Args: []int{0}},
		"call 0 64 8 7 6 5 4 3 2 1":        {Op: api.OpCall, N: 64, Args: []int{8, 7, 6, 5, 4, 3, 2, 1}},
		"call 0 -1 9 9 9 9 9 9 9 9 9 -900": {Op: api.OpCall, N: -1, Args: []int{9, 9, 9, 9, 9, 9, 9, 9, 9, -900}},
		"nop":                              {A: 1, B: 2, C: 3, N: 4, Args: []int{5}},
		"exit 1000000":                     {Op: api.OpExit, A: 1000000},
	} {
		if line := text.Ins(i); line != want {
			t.Errorf("Ins(%v) is %q, not %q", i, line, want)
		}
	}
}

func TestPutOfWhatIsNotValid(t *testing.T) {
	for _, x := range []struct {
		m    api.Module
		want api.Errno
	}{
		{of(), api.ErrArg},
		{of(make([]api.Func, 65)...), api.ErrArg},
		{api.Module{Data: make([]byte, 8193), Funcs: []api.Func{{}}}, api.ErrLong},
		{api.Module{Data: make([]byte, 8193)}, api.ErrLong},
		{of(api.Func{Params: -1}), api.ErrArg},
		{of(api.Func{Params: 1}), api.ErrArg},
		{of(api.Func{Params: 9, Regs: 9}), api.ErrArg},
		{of(api.Func{Regs: 65}), api.ErrArg},
		{of(api.Func{Area: 4097}), api.ErrArg},
		{of(api.Func{}, api.Func{Regs: 1, Code: []api.Ins{{Op: api.OpExit, A: 1}}}), api.ErrRange},
		{of(api.Func{}, api.Func{Regs: 1, Code: []api.Ins{{Op: api.OpExit, N: 1}}}), api.ErrArg},
		{of(function(api.Ins{Op: 33})), api.ErrIllegal},
		{of(function(api.Ins{Op: -1})), api.ErrIllegal},
		{of(function(api.Ins{Op: api.OpCall, Args: make([]int, 9)})), api.ErrLong},
		{of(function(make([]api.Ins, 4097)...)), api.ErrLong},
	} {
		if s, e := text.Put(x.m); s != "" || e != x.want {
			t.Errorf("Put(%s) is %s %v, not %v", brief(x.m), brief(s), e, x.want)
		}
	}
}

// TestPutOfData has so many full lines of bytes, and a last one of each length.
func TestPutOfData(t *testing.T) {
	words := strings.Fields("bytes 0 17 34 51 68 85 102 119 136 153 170 187 204 221 238 255")
	var sixteen []byte
	for n := range 16 {
		sixteen = append(sixteen, byte(17*n))
	}
	for _, full := range []int{0, 1, 2, 3, 100, 511} {
		for many := range 17 {
			m := api.Module{Data: append(slices.Repeat(sixteen, full), sixteen[:many]...), Funcs: []api.Func{{}}}
			want := strings.Repeat(strings.Join(words, " ")+"\n", full)
			if many > 0 {
				want += strings.Join(words[:many+1], " ") + "\n"
			}
			puts(t, m, want+"func 0 0 0\n")
			reads(t, want+"func 0 0 0\n", m)
		}
	}
}

func TestPutOfFunctions(t *testing.T) {
	puts(t, of(api.Func{}), "func 0 0 0\n")
	puts(t, of(api.Func{Params: 8, Regs: 64, Area: 4096}), "func 8 64 4096\n")
	puts(t, of(api.Func{Regs: 3}, api.Func{Params: 1, Regs: 2, Area: 3, Code: []api.Ins{{}, {}}}, api.Func{Area: 5}), "func 0 3 0\nfunc 1 2 3\n  nop\n  nop\nfunc 0 0 5\n")
	puts(t, of(make([]api.Func, 64)...), strings.Repeat("func 0 0 0\n", 64))
	puts(t, of(function(make([]api.Ins, 4096)...)), "func 0 64 4096\n"+strings.Repeat("  nop\n", 4096))
	puts(t, of(function(api.Ins{Op: api.OpCall, A: 63, N: 63, Args: []int{0, 1, 2, 3, 60, 61, 62, 63}}, api.Ins{Op: api.OpConst, N: math.MinInt})), "func 0 64 4096\n  call 63 63 0 1 2 3 60 61 62 63\n  const 0 -9223372036854775808\n")
	// What is valid need not be accepted.
	puts(t, of(api.Func{Regs: 1, Code: []api.Ins{{Op: api.OpExit}, {Op: api.OpJmp, N: 4095}}}), "func 0 1 0\n  exit 0\n  jmp 4095\n")
}

func TestNumbers(t *testing.T) {
	for want, s := range map[int]string{
		0: "0", 1: "1", -1: "-1", 9: "9", 10: "10", -10: "-10", 99: "99", 100: "100", 1234567890: "1234567890", -1234567890: "-1234567890",
		math.MaxInt32: "2147483647", math.MinInt32: "-2147483648", 1 << 32: "4294967296", math.MaxInt: "9223372036854775807", math.MinInt: "-9223372036854775808", math.MinInt + 1: "-9223372036854775807", 1e18: "1000000000000000000",
	} {
		if n, ok := text.Number(s); n != want || !ok {
			t.Errorf("Number(%q) is %d %v", s, n, ok)
		}
	}
	for _, s := range []string{
		"", "-", "--1", "-0", "+0", "+1", "00", "01", "-01", "-00", "007", "1-", "1 ", " 1", "1\n", "\t1", "0x1", "0x", "x", "1x", "1.", "1.0", "1e3", "1_0", "0b1", "0o7", "1,0", "a", "ff",
		"9223372036854775808", "9223372036854775810", "-9223372036854775809", "10000000000000000000", "18446744073709551615", "18446744073709551616", "-18446744073709551615", "36893488147419103232", "09223372036854775807", "92233720368547758070",
		"\x00", "1\x00", "\xff", "\u0661", "\uff11", "1\u0662", "\u22121", "inf", "nan", strings.Repeat("1", 400_000), strings.Repeat("0", 400_000), "-" + strings.Repeat("9", 20),
	} {
		if n, ok := text.Number(s); n != 0 || ok {
			t.Errorf("Number(%s) is %d %v", brief(s), n, ok)
		}
	}
}
