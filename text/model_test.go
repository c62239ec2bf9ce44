package text_test

import (
	"math/big"
	"slices"
	"strconv"
	"strings"
	"testing"

	"twinshaft/api"
	"twinshaft/module"
	"twinshaft/text"
)

// The model says all of layer 13 once more, byte by byte, with a table of its own.

// order is, for each operation, its name and its fields in the order of its line: A, B, C, N, and l for Args.
const order = `nop:
const:AN
mov:AB
add:ABC
sub:ABC
mul:ABC
div:ABC
divu:ABC
rem:ABC
remu:ABC
and:ABC
or:ABC
xor:ABC
shl:ABC
shr:ABC
sar:ABC
lt:ABC
ltu:ABC
eq:ABC
ne:ABC
ext:ABN
load:ABN
store:ABN
lea:AN
data:AN
jmp:N
brz:AN
brnz:AN
call:ANl
ret:A
getb:A
putb:A
exit:A`

// row is the number of an operation and its fields; -1 if there is no such name.
func row(name string) (int, string) {
	for op, line := range strings.Split(order, "\n") {
		if have, fields, _ := strings.Cut(line, ":"); have == name {
			return op, fields
		}
	}
	return -1, ""
}

// number is a word's, by digits and without bounds at first.
func number(word string) (int, bool) {
	digits := word
	negative := word != "" && word[0] == '-'
	if negative {
		digits = word[1:]
	}
	if digits == "" || digits[0] == '0' && (negative || len(digits) > 1) {
		return 0, false
	}
	sum := new(big.Int)
	for at := range len(digits) {
		if digits[at] < '0' || digits[at] > '9' {
			return 0, false
		}
		sum.Mul(sum, big.NewInt(10)).Add(sum, big.NewInt(int64(digits[at]-'0')))
	}
	if negative {
		sum.Neg(sum)
	}
	return int(sum.Int64()), sum.IsInt64()
}

// split are the words of a line, byte by byte.
func split(line string) []string {
	var out []string
	word := ""
	for at := 0; at <= len(line); at++ {
		if at < len(line) && line[at] != 32 && line[at] != 9 {
			word += line[at : at+1]
			continue
		}
		if word != "" && word[0] == '#' {
			return out
		}
		if word != "" {
			out = append(out, word)
		}
		word = ""
	}
	return out
}

// modelLine is what a line with contents adds to a module, or why it is wrong.
func modelLine(m *api.Module, words []string) api.Errno {
	op, fields := row(words[0])
	many := len(words) - 1
	switch {
	case words[0] == "bytes":
		if len(m.Funcs) > 0 {
			return api.ErrForm
		}
	case words[0] == "func":
		if many != 3 {
			return api.ErrForm
		}
	case op < 0 || len(m.Funcs) == 0:
		return api.ErrForm
	case op == api.OpCall && (many < 2 || many > 10) || op != api.OpCall && many != len(fields):
		return api.ErrForm
	}
	var numbers []int
	for _, word := range words[1:] {
		n, ok := number(word)
		if !ok || words[0] == "bytes" && (n < 0 || n > 255) {
			return api.ErrRange
		}
		numbers = append(numbers, n)
	}
	switch words[0] {
	case "bytes":
		for _, n := range numbers {
			m.Data = append(m.Data, byte(n))
		}
	case "func":
		m.Funcs = append(m.Funcs, api.Func{Params: numbers[0], Regs: numbers[1], Area: numbers[2]})
	default:
		f := &m.Funcs[len(m.Funcs)-1]
		f.Code = append(f.Code, modelIns(op, fields, numbers))
	}
	return api.OK
}

func modelIns(op int, fields string, numbers []int) api.Ins {
	i := api.Ins{Op: op}
	for n, field := range []byte(fields) {
		switch field {
		case 'A':
			i.A = numbers[n]
		case 'B':
			i.B = numbers[n]
		case 'C':
			i.C = numbers[n]
		case 'N':
			i.N = numbers[n]
		case 'l':
			i.Args = numbers[n:]
		}
	}
	return i
}

// modelGet is what Get has to tell.
func modelGet(s string) (api.Module, api.Fault) {
	if len(s) > 400_000 {
		return api.Module{}, api.Fault{Err: api.ErrLong, At: 400_000}
	}
	var m api.Module
	begin := 0
	for at := 0; at <= len(s); at++ {
		if at < len(s) && s[at] != 10 {
			continue
		}
		if words := split(s[begin:at]); len(words) > 0 {
			if e := modelLine(&m, words); e != api.OK {
				return api.Module{}, api.Fault{Err: e, At: begin}
			}
		}
		begin = at + 1
	}
	if e := module.Check(m); e != api.OK {
		return api.Module{}, api.Fault{Err: e}
	}
	return m, api.Fault{}
}

// modelPut is the text of a valid module.
func modelPut(m api.Module) string {
	out := ""
	for n, b := range m.Data {
		if n%16 == 0 {
			out += "bytes"
		}
		out += " " + strconv.Itoa(int(b))
		if n%16 == 15 || n == len(m.Data)-1 {
			out += "\n"
		}
	}
	for _, f := range m.Funcs {
		out += "func " + strconv.Itoa(f.Params) + " " + strconv.Itoa(f.Regs) + " " + strconv.Itoa(f.Area) + "\n"
		for _, i := range f.Code {
			out += "  " + modelLineOf(i) + "\n"
		}
	}
	return out
}

func modelLineOf(i api.Ins) string {
	name, fields, _ := strings.Cut(strings.Split(order, "\n")[i.Op], ":")
	for _, field := range []byte(fields) {
		switch field {
		case 'A':
			name += " " + strconv.Itoa(i.A)
		case 'B':
			name += " " + strconv.Itoa(i.B)
		case 'C':
			name += " " + strconv.Itoa(i.C)
		case 'N':
			name += " " + strconv.Itoa(i.N)
		case 'l':
			for _, register := range i.Args {
				name += " " + strconv.Itoa(register)
			}
		}
	}
	return name
}

// likeTheModel holds a text against the model, and tells the error; a module that is read is put, too, and read again.
func likeTheModel(t *testing.T, s string) api.Errno {
	t.Helper()
	want, fault := modelGet(s)
	if fault.Err != api.OK {
		refuses(t, s, fault.Err, fault.At)
		return fault.Err
	}
	reads(t, s, want)
	got, _ := text.Get(s)
	again := modelPut(want)
	puts(t, got, again)
	reads(t, again, want)
	return api.OK
}

func wantMet(t *testing.T, met map[api.Errno]int, times int, all ...api.Errno) {
	t.Helper()
	for _, e := range all {
		if met[e] < times {
			t.Errorf("%v is met %d times", e, met[e])
		}
	}
}

// each visits all texts of at most so many pieces.
func each(pieces []string, many int, visit func(string)) {
	visit("")
	if many == 0 {
		return
	}
	for _, piece := range pieces {
		each(pieces, many-1, func(rest string) { visit(piece + rest) })
	}
}

// P13.2 and P13.3

func TestLikeTheModelOnShortTexts(t *testing.T) {
	met := map[api.Errno]int{}
	each([]string{"bytes", "func", "call", "getb", " 0", " 1", "\n", "#", " 256", "\t", "x", "func 0 1 0\n"}, 5, func(s string) { met[likeTheModel(t, s)]++ })
	wantMet(t, met, 20, api.OK, api.ErrForm, api.ErrRange, api.ErrArg)
}

func TestLikeTheModelOnShortLines(t *testing.T) {
	met := map[api.Errno]int{}
	each([]string{"bytes 0\n", "bytes 1 256\n", "func 0 2 0\n", "func 1 0 0\n", "func 0 2\n", "nop\n", "call 0 0\n", "ret 1\n", "ret 2\n", "ret z\n", "# ret\n", "ret#\n"}, 5, func(s string) { met[likeTheModel(t, s)]++ })
	wantMet(t, met, 20, api.OK, api.ErrForm, api.ErrRange, api.ErrArg)
}

func TestLikeTheModelOnLinesByBytes(t *testing.T) {
	met := map[api.Errno]int{}
	for a := range 256 {
		for b := range 256 {
			s := "func 0 1 0\nret" + string([]byte{byte(a), '0', byte(b)})
			met[likeTheModel(t, s)]++
			met[likeTheModel(t, string([]byte{byte(a), byte(b)})+s)]++
		}
	}
	wantMet(t, met, 10, api.OK, api.ErrForm, api.ErrRange)
}

// TestNumbersLikeTheModel has all short words of a few letters, and numbers near the bounds.
func TestNumbersLikeTheModel(t *testing.T) {
	met := map[bool]int{}
	hold := func(s string) {
		n, ok := text.Number(s)
		want, is := number(s)
		if ok != is || is && n != want || !is && n != 0 {
			t.Errorf("Number(%q) is %d %v, not %d %v", s, n, ok, want, is)
		}
		met[ok]++
	}
	each([]string{"0", "1", "9", "-", "+", "_", " ", "a", "."}, 5, hold)
	for _, bound := range []string{"9223372036854775807", "18446744073709551615", "99999999999999999999", "1000000000000000000"} {
		middle, _ := new(big.Int).SetString(bound, 10)
		for n := range int64(2001) {
			near := new(big.Int).Add(middle, big.NewInt(n-1000)).String()
			for _, s := range []string{near, "-" + near, "0" + near, near + "0", near[1:], "+" + near} {
				hold(s)
			}
		}
	}
	if met[true] < 1000 || met[false] < 1000 {
		t.Error(met)
	}
}

// mixed tells numbers that look mixed, always the same ones.
type mixed uint64

func (m *mixed) below(n int) int {
	*m = *m*6364136223846793005 + 1442695040888963407
	return int(uint64(*m)>>33) % n
}

// once tells whether this is one of so many times.
func (m *mixed) once(of int) bool { return m.below(of) == 0 }

// instruction is a valid one of any kind, in a function with so many registers and bytes of area.
func (m *mixed) instruction(regs, area int) api.Ins {
	op := m.below(api.Ops)
	_, fields := row(strings.Split(strings.Split(order, "\n")[op], ":")[0])
	if regs == 0 {
		op, fields = []int{api.OpNop, api.OpJmp}[m.below(2)], ""
	}
	n := map[int]int{api.OpConst: m.below(1<<31) - m.below(1<<31), api.OpExt: 1 + m.below(6), api.OpLoad: 1 + m.below(7), api.OpStore: 1 << m.below(4), api.OpLea: m.below(area + 1), api.OpData: m.below(8193), api.OpJmp: m.below(4096), api.OpBrz: m.below(4096), api.OpBrnz: m.below(4096), api.OpCall: m.below(64)}[op]
	i := api.Ins{Op: op, N: n}
	for _, field := range []byte(fields) {
		switch field {
		case 'A':
			i.A = m.below(regs)
		case 'B':
			i.B = m.below(regs)
		case 'C':
			i.C = m.below(regs)
		case 'l':
			for range m.below(9) {
				i.Args = append(i.Args, m.below(regs))
			}
		}
	}
	return i
}

// module is a valid one.
func (m *mixed) module() api.Module {
	var out api.Module
	for range m.below(60) {
		out.Data = append(out.Data, byte(m.below(256)))
	}
	for range 1 + m.below(4) {
		f := api.Func{Regs: m.below(65), Area: m.below(4097)}
		f.Params = m.below(1 + min(8, f.Regs))
		for range m.below(20) {
			f.Code = append(f.Code, m.instruction(f.Regs, f.Area))
		}
		out.Funcs = append(out.Funcs, f)
	}
	return out
}

// among is one of some texts.
func (m *mixed) among(l ...string) string { return l[m.below(len(l))] }

// loosened is a text that is read as s is: with other blanks, with remarks and with empty lines.
func (m *mixed) loosened(s string) string {
	var out strings.Builder
	for line := range strings.Lines(s) {
		for m.once(5) {
			out.WriteString(m.among("", " ", "\t", "#", " # exit 0", "#\xff\r", "\t\t##") + "\n")
		}
		for n, word := range strings.Fields(line) {
			out.WriteString(m.among("", " ", "\t", "   ", " \t "))
			if n > 0 {
				out.WriteString(m.among(" ", "\t"))
			}
			out.WriteString(word)
		}
		out.WriteString(m.among("", "", " ", "\t \t", " #", "\t# 1 2 3", " #nop") + "\n")
	}
	return strings.TrimSuffix(out.String(), m.among("", "\n"))
}

// spoiled is a text of which a byte or a piece is another one.
func (m *mixed) spoiled(s string) string {
	at := m.below(len(s))
	end := min(len(s), at+m.below(4))
	return s[:at] + m.among("", " ", "\n", "#", "\t", " 1", "9", "-", "x", "\r", "bytes ", "\nfunc 0 0 0\n", "\nbytes 1\n", " #", "\n#", "\nnop\n") + s[end:]
}

func TestLikeTheModelOnMixedTexts(t *testing.T) {
	m := mixed(13)
	met := map[api.Errno]int{}
	for range 4000 {
		a := m.module()
		s := modelPut(a)
		puts(t, a, s)
		reads(t, s, a)
		loose := m.loosened(s)
		reads(t, loose, a)
		met[likeTheModel(t, m.spoiled(s))]++
		met[likeTheModel(t, m.spoiled(m.spoiled(loose)))]++
	}
	wantMet(t, met, 20, api.OK, api.ErrForm, api.ErrRange, api.ErrArg)
}

// TestLinesLikeTheModel has instructions of any fields.
func TestLinesLikeTheModel(t *testing.T) {
	m := mixed(14)
	for range 20000 {
		i := api.Ins{Op: m.below(api.Ops), A: m.below(100) - 10, B: m.below(100) - 10, C: m.below(100) - 10, N: m.below(1<<31) - m.below(1<<31)}
		for range m.below(12) {
			i.Args = append(i.Args, m.below(100)-10)
		}
		args := slices.Clone(i.Args)
		if line := text.Ins(i); line != modelLineOf(i) || !slices.Equal(args, i.Args) {
			t.Errorf("Ins(%v) is %q, not %q", i, line, modelLineOf(i))
		}
	}
}

// TestGreatModules has texts of almost as many bytes as are read, and of more.
func TestGreatModules(t *testing.T) {
	for _, functions := range []int{1, 14, 15, 64} {
		a := api.Module{Data: slices.Repeat([]byte{200}, api.MaxData), Funcs: slices.Repeat([]api.Func{{Code: make([]api.Ins, api.MaxCode)}}, functions)}
		want := strings.Repeat("bytes"+strings.Repeat(" 200", 16)+"\n", 512) + strings.Repeat("func 0 0 0\n"+strings.Repeat("  nop\n", 4096), functions)
		puts(t, a, want)
		if len(want) <= 400_000 {
			reads(t, want, a)
		} else {
			refuses(t, want, api.ErrLong, 400_000)
		}
	}
}
