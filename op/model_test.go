package op_test

import (
	"math"
	"slices"
	"strings"
	"testing"

	"twinshaft/api"
	"twinshaft/op"
)

// table is the chapter's list of operations: names, and the shape that they share.
const table = `nop:
const:wi
mov:wr
add sub mul div divu rem remu and or xor shl shr sar lt ltu eq ne:wrr
ext:wrk
load:wrm
store:rrz
lea:wf
data:wd
jmp:t
brz brnz:rt
call:wcl
ret:r
getb:w
putb exit:r`

type row struct{ name, shape string }

// rows are the operations, in the order of their numbers.
func rows() []row {
	var out []row
	for line := range strings.SplitSeq(table, "\n") {
		names, shape, _ := strings.Cut(line, ":")
		for name := range strings.FieldsSeq(names) {
			out = append(out, row{name, shape})
		}
	}
	return out
}

// numbered are the numbers of the chapter, by name.
func numbered() map[string]int {
	return map[string]int{
		"nop": 0, "const": 1, "mov": 2, "add": 3, "sub": 4, "mul": 5, "div": 6, "divu": 7, "rem": 8, "remu": 9, "and": 10,
		"or": 11, "xor": 12, "shl": 13, "shr": 14, "sar": 15, "lt": 16, "ltu": 17, "eq": 18, "ne": 19, "ext": 20, "load": 21,
		"store": 22, "lea": 23, "data": 24, "jmp": 25, "brz": 26, "brnz": 27, "call": 28, "ret": 29, "getb": 30, "putb": 31, "exit": 32,
	}
}

// want tells what Check asks for, by the chapter's words: a bare model that looks at one field after the other.
func want(i api.Ins, regs, area int) api.Errno {
	if i.Op < 0 || i.Op > 32 {
		return api.ErrIllegal
	}
	shape := rows()[i.Op].shape
	if regs < 0 || regs > 64 || area < 0 || area > 4096 {
		return api.ErrArg
	}
	named := strings.Count(shape, "w") + strings.Count(shape, "r")
	inRange := true
	for at, n := range []int{i.A, i.B, i.C} {
		if at >= named && n != 0 {
			return api.ErrArg
		}
		if at < named && (n < 0 || n >= regs) {
			inRange = false
		}
	}
	if !strings.ContainsAny(shape, "ikmzfdtc") && i.N != 0 {
		return api.ErrArg
	}
	if !strings.Contains(shape, "l") && len(i.Args) != 0 {
		return api.ErrArg
	}
	if len(i.Args) > 8 {
		return api.ErrLong
	}
	for _, n := range i.Args {
		if n < 0 || n >= regs {
			inRange = false
		}
	}
	if !inRange || !numberFits(shape, i.N, area) {
		return api.ErrRange
	}
	return api.OK
}

func numberFits(shape string, n, area int) bool {
	upTo := func(least, greatest int) bool { return n >= least && n <= greatest }
	switch {
	case strings.Contains(shape, "k"):
		return upTo(1, 6)
	case strings.Contains(shape, "m"):
		return upTo(1, 7)
	case strings.Contains(shape, "z"):
		return n == 1 || n == 2 || n == 4 || n == 8
	case strings.Contains(shape, "f"):
		return upTo(0, area)
	case strings.Contains(shape, "d"):
		return upTo(0, 8192)
	case strings.Contains(shape, "t"):
		return upTo(0, 4095)
	case strings.Contains(shape, "c"):
		return upTo(0, 63)
	}
	return true
}

// mixed tells numbers that look mixed, always the same ones.
type mixed uint64

func (m *mixed) below(n int) int {
	*m = *m*6364136223846793005 + 1442695040888963407
	return int(uint64(*m)>>33) % n
}

func (m *mixed) one(of []int) int { return of[m.below(len(of))] }

// registers and numbers at the edges, most of them small.
func registers() []int {
	return []int{0, 0, 0, 1, 1, 2, 3, 7, 62, 63, 64, 65, -1, 255, 256, 1 << 32, math.MinInt, math.MaxInt}
}

func numbers() []int {
	return []int{0, 0, 0, 1, 2, 3, 4, 5, 6, 7, 8, 9, 15, 16, 32, 62, 63, 64, 65, 100, 101, 4094, 4095, 4096, 4097, 8191, 8192, 8193, -1, -8, 1<<32 + 1, 1 << 62, math.MinInt, math.MaxInt}
}

// jumble is an instruction of that operation, whose fields are often those of its shape.
func (m *mixed) jumble(number int) api.Ins {
	i := api.Ins{Op: number}
	shape := op.Shape(number)
	named := strings.Count(shape, "w") + strings.Count(shape, "r")
	odd := m.below(12)
	for at, field := range []*int{&i.A, &i.B, &i.C} {
		if at < named || odd == at {
			*field = m.one(registers())
		}
	}
	if strings.ContainsAny(shape, "ikmzfdtc") || odd == 3 {
		i.N = m.one(numbers())
	}
	if strings.Contains(shape, "l") || odd == 4 {
		for range m.below(11) {
			i.Args = append(i.Args, m.one(registers()[:10]))
		}
	}
	return i
}

// P6.2

func TestCheckLikeTheModel(t *testing.T) {
	var m mixed
	met := map[api.Errno]int{}
	for range 60000 {
		i := m.jumble(m.below(36) - 1)
		regs, area := m.one([]int{0, 1, 2, 3, 4, 8, 63, 64, 64, 64, 65, -1}), m.one([]int{0, 0, 1, 7, 8, 63, 64, 100, 4095, 4096, 4096, 4097, -1})
		got := op.Check(i, regs, area)
		if got != want(i, regs, area) {
			t.Fatalf("%+v, %d, %d: %v, not %v", i, regs, area, got, want(i, regs, area))
		}
		met[got]++
	}
	for _, e := range []api.Errno{api.OK, api.ErrArg, api.ErrLong, api.ErrRange, api.ErrIllegal} {
		if met[e] < 100 {
			t.Errorf("%v met %d times only", e, met[e])
		}
	}
}

// P6.4

func TestValidInstructionsStayBelowTheirRegisters(t *testing.T) {
	var m mixed
	valid := map[int]int{}
	for range 60000 {
		i := m.jumble(m.below(33))
		regs, area := 1+m.below(64), m.below(4097)
		if op.Check(i, regs, area) != api.OK {
			continue
		}
		valid[i.Op]++
		if w := op.Writes(i); w >= regs || w < -1 {
			t.Errorf("%+v writes %d of %d", i, w, regs)
		}
		for _, r := range op.Reads(i) {
			if r < 0 || r >= regs {
				t.Errorf("%+v reads %d of %d", i, r, regs)
			}
		}
		for _, more := range [][2]int{{regs, area}, {regs + m.below(65-regs), area}, {regs, area + m.below(4097-area)}, {64, 4096}} {
			if e := op.Check(i, more[0], more[1]); e != api.OK {
				t.Errorf("%+v with %d, %d: %v, but not with %d, %d", i, more[0], more[1], e, regs, area)
			}
		}
	}
	for n := range api.Ops {
		if valid[n] < 20 {
			t.Errorf("%s was valid %d times only", op.Name(n), valid[n])
		}
	}
}

func TestNamesAreFound(t *testing.T) {
	met := map[string]int{}
	for n := range api.Ops {
		name := op.Name(n)
		if was, again := met[name]; again || name == "" {
			t.Errorf("%d has the name %q, as %d has", n, name, was)
		}
		met[name] = n
		if op.Find(name) != n {
			t.Errorf("Find(%q): %d", name, op.Find(name))
		}
	}
}

// P6.3

// read is what an instruction reads by the model: of A, B, C those whose letter is r, and then Args where the shape has them.
func read(i api.Ins) []int {
	var out []int
	shape := rows()[i.Op].shape
	from := []int{i.A, i.B, i.C}
	for at, letter := range strings.Map(onlyRegisters, shape) {
		if letter == 'r' {
			out = append(out, from[at])
		}
	}
	if strings.HasSuffix(shape, "l") {
		out = append(out, i.Args...)
	}
	return out
}

func onlyRegisters(letter rune) rune {
	if letter == 'w' || letter == 'r' {
		return letter
	}
	return -1
}

func TestTellsLikeTheModel(t *testing.T) {
	var m mixed
	for range 20000 {
		i := m.jumble(m.below(33))
		shape := rows()[i.Op].shape
		writes, target := -1, -1
		if strings.HasPrefix(shape, "w") {
			writes = i.A
		}
		if strings.HasSuffix(shape, "t") {
			target = i.N
		}
		if got := op.Writes(i); got != writes {
			t.Fatalf("%+v writes %d", i, got)
		}
		if got := op.Reads(i); !slices.Equal(got, read(i)) {
			t.Fatalf("%+v reads %v", i, got)
		}
		if got := op.Target(i); got != target {
			t.Fatalf("%+v goes to %d", i, got)
		}
	}
}
