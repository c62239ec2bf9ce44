package text_test

import (
	"fmt"
	"math"
	"reflect"
	"slices"
	"strings"
	"testing"

	"twinshaft/api"
	"twinshaft/module"
	"twinshaft/text"
)

// P13.2

func TestLongTexts(t *testing.T) {
	end := "func 0 0 0"
	for _, filling := range []string{" ", "\t", "\n", "#", "# "} {
		filled := strings.Repeat(filling, 400_000)
		reads(t, end+" "+filled[:400_000-len(end)-1], of(api.Func{}))
		refuses(t, end+" "+filled[:400_000-len(end)], api.ErrLong, 400_000)
	}
	refuses(t, strings.Repeat("x", 400_000), api.ErrForm, 0)
	refuses(t, strings.Repeat("x", 400_001), api.ErrLong, 400_000)
	refuses(t, strings.Repeat("x\n", 1_000_000), api.ErrLong, 400_000)
	refuses(t, strings.Repeat("\n", 399_999)+"x", api.ErrForm, 399_999)
	refuses(t, strings.Repeat(" ", 400_000), api.ErrArg, 0)
}

// TestPlacesOfFaults has the faulty line behind others, of all lengths, with blanks before it and without.
func TestPlacesOfFaults(t *testing.T) {
	for n := range 300 {
		for _, x := range []struct {
			begin, wrong string
			e            api.Errno
		}{
			{"bytes 1\n", "byte 1", api.ErrForm}, {"bytes 1\n", "bytes x", api.ErrRange}, {"bytes 1 2\n", "nop", api.ErrForm},
			{"func 0 0 0\n nop\n", "bytes 1", api.ErrForm}, {"func 0 0 0\n nop\n", "nop 0", api.ErrForm}, {"func 0 1 0\n nop\n", "getb y", api.ErrRange}, {"func 0 1 0\n", "func 0 1", api.ErrForm}, {"func 0 1 0\n", "func 0 1 -0", api.ErrRange},
		} {
			before := x.begin + strings.Repeat("#", n) + "\n\n"
			for _, rest := range []string{"", "\n", "\nfunc 0 0 0\n", " # 1\n\nz\n"} {
				refuses(t, before+x.wrong+rest, x.e, len(before))
				refuses(t, before+" \t "+x.wrong+rest, x.e, len(before))
			}
		}
	}
}

func TestFirstWords(t *testing.T) {
	for _, word := range []string{"x", "Bytes", "BYTES", "byte", "bytess", "Func", "function", "fun", "funcs", "Add", "addd", "ad", "nop,", "nop:", "-", "0", "1", "-1", "33", "op", "nop\x00", "\x00nop", "nop\r", "\rnop", "nop\v", "\vnop", "nop\f", "nop\u00a0", "nop\u0085", "nop\u2003", "\u2028nop", "\ufeffnop", "\xff", "\xffnop", "nop\xc2", "nop#", "n#", "bytes#", "func#", ";", "//", "\"nop\""} {
		refuses(t, word, api.ErrForm, 0)
		refuses(t, word+" 1", api.ErrForm, 0)
		refuses(t, "bytes 1\n"+word, api.ErrForm, 8)
		refuses(t, "func 0 0 0\n"+word, api.ErrForm, 11)
		refuses(t, "func 0 0 0\n"+word+" z", api.ErrForm, 11)
		refuses(t, "func 0 0 0\nnop\n"+word+"\nnop", api.ErrForm, 15)
	}
}

// TestWhereLinesAreAllowed asks each kind of line for its place, with good words and with bad ones.
func TestWhereLinesAreAllowed(t *testing.T) {
	for op, line := range fullLines() {
		for _, rest := range []string{"", " 1", " z", "\nfunc 0 64 0"} {
			refuses(t, line+rest, api.ErrForm, 0)
			refuses(t, "\nbytes 1 2\n"+line+rest, api.ErrForm, 11)
		}
		if op == api.OpNop {
			reads(t, "func 0 64 0\n"+line, of(api.Func{Regs: 64, Code: []api.Ins{{}}}))
		}
	}
	for _, line := range []string{"bytes", "bytes 1", "bytes x", "bytes 256", "bytes 1 2 3"} {
		refuses(t, "func 0 0 0\n"+line, api.ErrForm, 11)
		refuses(t, "bytes 1\nfunc 0 0 0\n"+line, api.ErrForm, 19)
		refuses(t, "func 0 0 0\nnop\n"+line, api.ErrForm, 15)
		refuses(t, "func 0 0 0\nfunc 0 0 0\nnop\n"+line, api.ErrForm, 26)
	}
	reads(t, "func 0 0 0\nfunc 0 0 0\nnop\nnop\nfunc 0 0 0", of(api.Func{}, api.Func{Code: []api.Ins{{}, {}}}, api.Func{}))
}

// least are lines of each operation, with 1 for each field that it has beside Args.
func least() []string {
	var out []string
	for _, line := range fullLines() {
		words := strings.Fields(line)
		if words[0] == "call" {
			words = words[:3]
		}
		out = append(out, words[0]+strings.Repeat(" 1", len(words)-1))
	}
	return out
}

func TestHowManyWords(t *testing.T) {
	head := "func 0 64 4096\n"
	for op, line := range least() {
		words := strings.Fields(line)
		for many := range 20 {
			ones, zs := head+words[0]+strings.Repeat(" 1", many), head+words[0]+strings.Repeat(" z", many)
			args := many - (len(words) - 1)
			if args != 0 && (op != api.OpCall || args < 0 || args > 8) {
				refuses(t, ones, api.ErrForm, len(head))
				refuses(t, zs, api.ErrForm, len(head))
				continue
			}
			m, f := text.Get(ones)
			if f != (api.Fault{}) || len(m.Funcs[0].Code) != 1 || len(m.Funcs[0].Code[0].Args) != args {
				t.Errorf("Get(%s) is %v %v", brief(ones), m, f)
			}
			if many > 0 {
				refuses(t, zs, api.ErrRange, len(head))
			}
		}
	}
	for many := range 9 {
		ones, zs := "func"+strings.Repeat(" 1", many), "func"+strings.Repeat(" z", many)
		if many == 3 {
			reads(t, ones, of(api.Func{Params: 1, Regs: 1, Area: 1}))
			refuses(t, zs, api.ErrRange, 0)
		} else {
			refuses(t, ones, api.ErrForm, 0)
			refuses(t, zs, api.ErrForm, 0)
		}
	}
}

// TestWordsThatAreNoNumbers spoils one word after the other.
func TestWordsThatAreNoNumbers(t *testing.T) {
	head := "bytes 1\nfunc 0 64 4096\n"
	for _, bad := range []string{"x", "-0", "01", "+1", "1,", "0x1", "--1", "-", "1#", "0#1", "1\r", "1\v2", "1\u00a0", "\u0661", "\xff", "1.0", "9223372036854775808", "-9223372036854775809", "nop", "func", "bytes"} {
		for _, line := range append(least(), "call 1 1 1 1 1 1 1 1 1 1", "func 1 1 1") {
			words := strings.Fields(line)
			for n := 1; n < len(words); n++ {
				spoiled := slices.Clone(words)
				spoiled[n] = bad
				refuses(t, head+strings.Join(spoiled, " "), api.ErrRange, len(head))
			}
		}
		for n := range 20 {
			spoiled := slices.Repeat([]string{"7"}, 20)
			spoiled[n] = bad
			refuses(t, "bytes 1\nbytes "+strings.Join(spoiled, " ")+"\nfunc 0 0 0", api.ErrRange, 8)
		}
	}
}

func TestEachByte(t *testing.T) {
	for n := -300; n < 600; n++ {
		for _, before := range []string{"", " 7", " 7 8 9", strings.Repeat(" 7", 40)} {
			s := fmt.Sprintf("#\nbytes%s %d\nfunc 0 0 0", before, n)
			if n < 0 || n > 255 {
				refuses(t, s, api.ErrRange, 2)
				continue
			}
			m, f := text.Get(s)
			if many := strings.Count(before, " "); f != (api.Fault{}) || len(m.Data) != many+1 || m.Data[many] != byte(n) {
				t.Errorf("Get(%q) is %v %v", s, m, f)
			}
		}
	}
	for _, n := range []int{1000, 65536, 65537, 1 << 32, math.MaxInt, math.MinInt, -256, -1} {
		refuses(t, fmt.Sprintf("bytes 1 %d 2", n), api.ErrRange, 0)
	}
}

func TestLinesOfBytes(t *testing.T) {
	whole := func(bytes ...byte) api.Module { return api.Module{Data: bytes, Funcs: []api.Func{{}}} }
	reads(t, "bytes 1\nbytes 2 3\nbytes 4\nfunc 0 0 0", whole(1, 2, 3, 4))
	reads(t, "bytes 1\n\n# 9\nbytes\nbytes 2\nfunc 0 0 0", whole(1, 2))
	reads(t, "bytes\nfunc 0 0 0", whole())
	reads(t, "bytes # 1\nfunc 0 0 0", whole())
	reads(t, "bytes"+strings.Repeat(" 5", 8192)+"\nfunc 0 0 0", whole(slices.Repeat([]byte{5}, 8192)...))
	reads(t, strings.Repeat("bytes 6\n", 8192)+"\nfunc 0 0 0", whole(slices.Repeat([]byte{6}, 8192)...))
	refuses(t, "bytes"+strings.Repeat(" 5", 8193)+"\nfunc 0 0 0", api.ErrLong, 0)
	refuses(t, strings.Repeat("bytes 6\n", 8193)+"\nfunc 0 0 0", api.ErrLong, 0)
	refuses(t, "bytes"+strings.Repeat(" 5", 100_000), api.ErrLong, 0)
}

func TestErrorsOfModule(t *testing.T) {
	for s, want := range map[string]api.Errno{
		"": api.ErrArg, "\n\n\n": api.ErrArg, "# func 0 0 0": api.ErrArg, "bytes 1 2 3": api.ErrArg,
		"\n" + strings.Repeat("func 0 0 0\n", 65): api.ErrArg, "\nfunc 1 0 0": api.ErrArg, "\nfunc -1 0 0": api.ErrArg, "\nfunc 9 9 0": api.ErrArg, "\nfunc 0 65 0": api.ErrArg, "\nfunc 0 -1 0": api.ErrArg, "\nfunc 0 0 4097": api.ErrArg, "\nfunc 0 0 -1": api.ErrArg, "\nfunc 0 0 0\nfunc 0 9223372036854775807 0": api.ErrArg,
		"\nfunc 0 0 0\nexit 0": api.ErrRange, "\nfunc 0 1 0\nexit 1": api.ErrRange, "\nfunc 0 64 0\nexit -1": api.ErrRange, "\nfunc 0 64 0\ncall 0 64": api.ErrRange, "\nfunc 0 64 0\ncall 0 0 0 0 0 0 0 0 0 64": api.ErrRange, "\nfunc 0 64 0\nload 0 0 0": api.ErrRange, "\nfunc 0 64 8\nlea 0 9": api.ErrRange, "\nfunc 0 64 8\nfunc 0 0 0\nlea 0 0": api.ErrRange, "\nfunc 0 0 0\njmp 4096": api.ErrRange,
		"\nfunc 0 0 0\n" + strings.Repeat("nop\n", 4097): api.ErrLong, "\nfunc 0 0 0\n" + strings.Repeat("nop\n", 90_000): api.ErrLong, "bytes" + strings.Repeat(" 1", 8193) + "\nfunc 9 0 0": api.ErrLong,
	} {
		refuses(t, s, want, 0)
	}
	// What is wrong with a line comes first.
	refuses(t, "func 0 0 0\nexit 0\nexit z", api.ErrRange, 18)
	refuses(t, "func 9 0 0\nwhat", api.ErrForm, 11)
	reads(t, "func 0 0 0\njmp 4095", of(api.Func{Code: []api.Ins{{Op: api.OpJmp, N: 4095}}}))
	reads(t, "func 0 64 0\nexit 0\ncall 0 63 63", of(api.Func{Regs: 64, Code: []api.Ins{{Op: api.OpExit}, {Op: api.OpCall, N: 63, Args: []int{63}}}}))
	reads(t, strings.Repeat("func 8 64 4096\n", 64), of(slices.Repeat([]api.Func{{Params: 8, Regs: 64, Area: 4096}}, 64)...))
	reads(t, "func 0 0 0\n"+strings.Repeat("nop\n", 4096), of(api.Func{Code: make([]api.Ins, 4096)}))
}

// TestTheFirstOfTwoFaults has two lines that are wrong, each in its way.
func TestTheFirstOfTwoFaults(t *testing.T) {
	wrong := map[string]api.Errno{"bytes 1": api.ErrForm, "what": api.ErrForm, "nop 1": api.ErrForm, "exit z": api.ErrRange, "func 0": api.ErrForm, "func z z z": api.ErrRange}
	for one, first := range wrong {
		for two := range wrong {
			for n := range 3 {
				before := "bytes 1\nfunc 0 0 0\n" + strings.Repeat("nop\n", n)
				refuses(t, lines(before+one, two), first, len(before))
				refuses(t, lines(before+one, "nop", "", two), first, len(before))
			}
		}
	}
}

// P13.3

// same are texts that are all read as the chapter's module.
func same() []string {
	return []string{
		chapterText, strings.TrimSuffix(chapterText, "\n"), "\n\n" + chapterText + "\n \n\t\n", "# c\n" + chapterText + "# d", strings.ReplaceAll(chapterText, "\n", "\n\n"), strings.ReplaceAll(chapterText, " ", "\t"), strings.ReplaceAll(chapterText, " ", " \t \t"),
		strings.ReplaceAll(chapterText, "\n", " \t\n \t"), strings.ReplaceAll(chapterText, "\n", " # c\n"), strings.ReplaceAll(chapterText, "\n", " #\n"), strings.ReplaceAll(chapterText, "\n", "\t#exit 1\n"), strings.ReplaceAll(chapterText, "\n", "\n#what\n"), strings.ReplaceAll(chapterText, "\n", " #\r\v\xff\x00\u2028 ## #\n"), strings.ReplaceAll(chapterText, "  ", ""),
		"bytes 2\nbytes 7 # x\n\nfunc 0 2 8 # func\ngetb 0\n\tcall\t1 0\nexit 0", "bytes\nbytes 2 7\nbytes\nfunc 0 2 8\ngetb 0\ncall 1 0 # 1\nexit 0\n",
	}
}

func TestWhatChangesNothing(t *testing.T) {
	for _, s := range same() {
		reads(t, s, chapter())
	}
	// A # within a word is a part of it.
	refuses(t, "bytes 2 7#\nfunc 0 0 0", api.ErrRange, 0)
	refuses(t, "func 0 0 0#", api.ErrRange, 0)
	refuses(t, "func# 0 0 0", api.ErrForm, 0)
	refuses(t, "func 0 0 # 0", api.ErrForm, 0)
	refuses(t, "func 0 0 #0", api.ErrForm, 0)
}

func TestEachInstructionIsReadAsItsLine(t *testing.T) {
	for op, line := range least() {
		m, f := text.Get("func 0 64 4096\n" + line)
		if f != (api.Fault{}) || m.Funcs[0].Code[0].Op != op || text.Ins(m.Funcs[0].Code[0]) != line {
			t.Errorf("%q is %v %v", line, m, f)
		}
	}
	want := api.Ins{Op: api.OpStore, A: 3, B: 4, N: 8}
	reads(t, "func 0 64 0\nstore 3 4 8\ncall 5 6 7 8\nbrz 9 10\nconst 11 -12\nxor 13 14 15", of(api.Func{Regs: 64, Code: []api.Ins{want, {Op: api.OpCall, A: 5, N: 6, Args: []int{7, 8}}, {Op: api.OpBrz, A: 9, N: 10}, {Op: api.OpConst, A: 11, N: -12}, {Op: api.OpXor, A: 13, B: 14, C: 15}}}))
}

// DOC.md's rule 4

// TestModulesAreNotChanged has lists with spare capacity, too.
func TestModulesAreNotChanged(t *testing.T) {
	build := func() (api.Module, []byte, []api.Func, []api.Ins, []int) {
		bytes, functions, code, args := []byte{1, 2, 3, 9}, make([]api.Func, 3), make([]api.Ins, 5), []int{0, 0, 7}
		functions[2], code[4] = function(), api.Ins{Op: 99}
		copy(code, []api.Ins{{Op: api.OpGetb}, {Op: api.OpCall, A: 1, Args: args[:2]}, {Op: api.OpData, N: 3}, {Op: api.OpExit}})
		copy(functions, []api.Func{function(code[:4]...), {}})
		return api.Module{Data: bytes[:3], Funcs: functions[:2]}, bytes, functions, code, args
	}
	m, bytes, functions, code, args := build()
	_, bytes2, functions2, code2, args2 := build()
	for range 2 {
		puts(t, m, "bytes 1 2 3\nfunc 0 64 4096\n  getb 0\n  call 1 0 0 0\n  data 0 3\n  exit 0\nfunc 0 0 0\n")
		if line := text.Ins(code[1]); line != "call 1 0 0 0" {
			t.Error(line)
		}
		if !reflect.DeepEqual([]any{bytes, functions, code, args}, []any{bytes2, functions2, code2, args2}) {
			t.Error("the module is another one now")
		}
	}
	code[3].A, args[1], bytes[0] = 63, 5, 77
	puts(t, m, "bytes 77 2 3\nfunc 0 64 4096\n  getb 0\n  call 1 0 0 5\n  data 0 3\n  exit 63\nfunc 0 0 0\n")
}

func TestListsOfAnAnswerShareNothing(t *testing.T) {
	s := "bytes 1 2\nfunc 0 9 0\ncall 0 0 1 2\ncall 0 0 1 2\nfunc 0 9 0\ncall 0 0 1 2\nnop"
	one, _ := text.Get(s)
	two, _ := text.Get(s)
	one.Data[0], one.Funcs[0].Code[0].Args[0] = 77, 8
	_ = append(one.Funcs[0].Code[0].Args, 5, 5)
	_ = append(one.Funcs[0].Code, api.Ins{Op: api.OpExit})
	_ = append(one.Data, 9, 9)
	want := []api.Ins{{Op: api.OpCall, Args: []int{1, 2}}, {Op: api.OpCall, Args: []int{1, 2}}, {}}
	reads(t, s, two)
	if !module.Same(of(one.Funcs[1]), of(api.Func{Regs: 9, Code: want[1:]})) || !module.Same(of(two.Funcs[0]), of(api.Func{Regs: 9, Code: want[:2]})) || !slices.Equal(one.Funcs[0].Code[1].Args, []int{1, 2}) || two.Data[0] != 1 {
		t.Error(one, two)
	}
}
