package rvcode_test

import (
	"math"
	"slices"
	"strconv"
	"strings"
	"testing"

	"twinshaft/api"
	"twinshaft/rvcode"
)

// table is the chapter's: the operations, their names, their forms, their numbers a, b and c.
const table = `
| 1 | lui | U | 55 |  |  |
| 2 | auipc | U | 23 |  |  |
| 3 | jal | J | 111 |  |  |
| 4 | jalr | I | 103 | 0 |  |
| 5 | beq | B | 99 | 0 |  |
| 6 | bne | B | 99 | 1 |  |
| 7 | blt | B | 99 | 4 |  |
| 8 | bge | B | 99 | 5 |  |
| 9 | bltu | B | 99 | 6 |  |
| 10 | bgeu | B | 99 | 7 |  |
| 11 | lb | I | 3 | 0 |  |
| 12 | lh | I | 3 | 1 |  |
| 13 | lw | I | 3 | 2 |  |
| 14 | ld | I | 3 | 3 |  |
| 15 | lbu | I | 3 | 4 |  |
| 16 | lhu | I | 3 | 5 |  |
| 17 | lwu | I | 3 | 6 |  |
| 18 | sb | S | 35 | 0 |  |
| 19 | sh | S | 35 | 1 |  |
| 20 | sw | S | 35 | 2 |  |
| 21 | sd | S | 35 | 3 |  |
| 22 | addi | I | 19 | 0 |  |
| 23 | slti | I | 19 | 2 |  |
| 24 | sltiu | I | 19 | 3 |  |
| 25 | xori | I | 19 | 4 |  |
| 26 | ori | I | 19 | 6 |  |
| 27 | andi | I | 19 | 7 |  |
| 28 | slli | X | 19 | 1 | 0 |
| 29 | srli | X | 19 | 5 | 0 |
| 30 | srai | X | 19 | 5 | 16 |
| 31 | addiw | I | 27 | 0 |  |
| 32 | slliw | Y | 27 | 1 | 0 |
| 33 | srliw | Y | 27 | 5 | 0 |
| 34 | sraiw | Y | 27 | 5 | 32 |
| 35 | add | R | 51 | 0 | 0 |
| 36 | sub | R | 51 | 0 | 32 |
| 37 | sll | R | 51 | 1 | 0 |
| 38 | slt | R | 51 | 2 | 0 |
| 39 | sltu | R | 51 | 3 | 0 |
| 40 | xor | R | 51 | 4 | 0 |
| 41 | srl | R | 51 | 5 | 0 |
| 42 | sra | R | 51 | 5 | 32 |
| 43 | or | R | 51 | 6 | 0 |
| 44 | and | R | 51 | 7 | 0 |
| 45 | addw | R | 59 | 0 | 0 |
| 46 | subw | R | 59 | 0 | 32 |
| 47 | sllw | R | 59 | 1 | 0 |
| 48 | srlw | R | 59 | 5 | 0 |
| 49 | sraw | R | 59 | 5 | 32 |
| 50 | mul | R | 51 | 0 | 1 |
| 51 | mulh | R | 51 | 1 | 1 |
| 52 | mulhsu | R | 51 | 2 | 1 |
| 53 | mulhu | R | 51 | 3 | 1 |
| 54 | div | R | 51 | 4 | 1 |
| 55 | divu | R | 51 | 5 | 1 |
| 56 | rem | R | 51 | 6 | 1 |
| 57 | remu | R | 51 | 7 | 1 |
| 58 | mulw | R | 59 | 0 | 1 |
| 59 | divw | R | 59 | 4 | 1 |
| 60 | divuw | R | 59 | 5 | 1 |
| 61 | remw | R | 59 | 6 | 1 |
| 62 | remuw | R | 59 | 7 | 1 |
| 63 | ecall | E | 115 | 0 |  |
`

// row is a row of the table.
type row struct {
	op      int
	name    string
	form    string
	a, b, c int
}

func rows(t *testing.T) []row {
	t.Helper()
	var out []row
	for _, line := range strings.Split(strings.TrimSpace(table), "\n") {
		cells := strings.Split(line, "|")
		number := func(i int) int {
			text := strings.TrimSpace(cells[i])
			if text == "" {
				return 0
			}
			n, err := strconv.Atoi(text)
			if err != nil {
				t.Fatal(line, err)
			}
			return n
		}
		out = append(out, row{number(1), strings.TrimSpace(cells[2]), strings.TrimSpace(cells[3]), number(4), number(5), number(6)})
	}
	if len(out) != 63 {
		t.Fatal("rows:", len(out))
	}
	return out
}

// layouts are the forms, each a word's bits from the highest one down: n c 6 0 is c's bits 6 to 0, and z are zeros.
func layouts() map[string]string {
	return map[string]string{
		"R": "c 6 0, rs2 4 0, rs1 4 0, b 2 0, rd 4 0, a 6 0",
		"I": "imm 11 0, rs1 4 0, b 2 0, rd 4 0, a 6 0",
		"X": "c 5 0, imm 5 0, rs1 4 0, b 2 0, rd 4 0, a 6 0",
		"Y": "c 6 0, imm 4 0, rs1 4 0, b 2 0, rd 4 0, a 6 0",
		"S": "imm 11 5, rs2 4 0, rs1 4 0, b 2 0, imm 4 0, a 6 0",
		"B": "imm 12 12, imm 10 5, rs2 4 0, rs1 4 0, b 2 0, imm 4 1, imm 11 11, a 6 0",
		"U": "imm 19 0, rd 4 0, a 6 0",
		"J": "imm 20 20, imm 10 1, imm 11 11, imm 19 12, rd 4 0, a 6 0",
		"E": "z 24 0, a 6 0",
	}
}

// piece is bits of one of the numbers, from the bit high down to the bit low.
type piece struct {
	of        string
	high, low int
}

func pieces(t *testing.T, form string) []piece {
	t.Helper()
	var out []piece
	size := 0
	for _, part := range strings.Split(layouts()[form], ", ") {
		words := strings.Fields(part)
		high, _ := strconv.Atoi(words[1])
		low, _ := strconv.Atoi(words[2])
		out = append(out, piece{words[0], high, low})
		size += high - low + 1
	}
	if size != 32 {
		t.Fatal(form, "has bits:", size)
	}
	return out
}

// allows tells which immediates a form allows: from least to most, the multiples of step.
func allows(form string) (least, most, step int) {
	switch form {
	case "I", "S":
		return -2048, 2047, 1
	case "X":
		return 0, 63, 1
	case "Y":
		return 0, 31, 1
	case "B":
		return -4096, 4094, 2
	case "U":
		return -524288, 524287, 1
	case "J":
		return -1048576, 1048574, 2
	}
	return 0, 0, 1
}

func has(form, number string) bool {
	return strings.Contains(layouts()[form], number+" ")
}

// allowed reports whether the chapter has nothing against an instruction with the form.
func allowed(form string, x api.Rv) bool {
	for number, n := range map[string]int{"rd": x.Rd, "rs1": x.Rs1, "rs2": x.Rs2} {
		if n < 0 || n > 31 || n > 0 && !has(form, number) {
			return false
		}
	}
	least, most, step := allows(form)
	return x.Imm >= least && x.Imm <= most && x.Imm%step == 0
}

// wordOf is the word of an instruction, put together from the highest bit down.
func wordOf(t *testing.T, r row, x api.Rv) uint32 {
	t.Helper()
	numbers := map[string]int{"a": r.a, "b": r.b, "c": r.c, "rd": x.Rd, "rs1": x.Rs1, "rs2": x.Rs2, "imm": x.Imm}
	w := uint64(0)
	for _, p := range pieces(t, r.form) {
		n := numbers[p.of]
		if n < 0 {
			n += 1 << 30
		}
		for bit := p.high; bit >= p.low; bit-- {
			w = w*2 + uint64(n>>bit%2)
		}
	}
	return uint32(w)
}

// reader has each form's pieces, and rows by their number a.
type reader struct {
	rows  map[int][]row
	forms map[string][]piece
}

func newReader(t *testing.T) reader {
	t.Helper()
	out := reader{map[int][]row{}, map[string][]piece{}}
	for _, r := range rows(t) {
		out.rows[r.a] = append(out.rows[r.a], r)
		out.forms[r.form] = pieces(t, r.form)
	}
	return out
}

// instruction is what a word tells, taken apart from the highest bit down, and whether it tells any.
func (d reader) instruction(w uint32) (api.Rv, bool) {
	for _, r := range d.rows[int(w%128)] {
		x, other, rest := api.Rv{Op: r.op}, [4]int{}, w
		for _, p := range d.forms[r.form] {
			to := map[string]*int{"rd": &x.Rd, "rs1": &x.Rs1, "rs2": &x.Rs2, "imm": &x.Imm, "a": &other[0], "b": &other[1], "c": &other[2], "z": &other[3]}[p.of]
			for bit := p.high; bit >= p.low; bit-- {
				*to += int(rest>>31) << bit
				rest <<= 1
			}
		}
		if other != [4]int{r.a, r.b, r.c, 0} {
			continue
		}
		if least, most, _ := allows(r.form); x.Imm > most {
			x.Imm += 2 * least
		}
		return x, true
	}
	return api.Rv{}, false
}

// strays are numbers that no operation has.
func strays() []int {
	return []int{math.MinInt, math.MinInt + 1, -1 << 32, -256, -63, -2, -1, 0, 64, 65, 100, 127, 128, 255, 256, 256 + 5, 1<<16 + 1, 1<<32 + 1, 1<<32 + 63, math.MaxInt}
}

// edges are numbers at which some form begins or ends to allow one, or of which the low bits alone would be allowed.
func edges() []int {
	out := []int{0, math.MinInt, math.MinInt + 2, math.MaxInt, math.MaxInt - 1}
	for _, n := range []int{1, 2, 3, 4, 5, 7, 8, 15, 16, 30, 31, 32, 33, 34, 62, 63, 64, 65, 66, 96, 127, 128, 2046, 2047, 2048, 2049, 2050, 4094, 4095, 4096, 4097, 4098, 8191, 8192, 8194} {
		out = append(out, n, -n)
	}
	for bit := 13; bit < 63; bit++ {
		for n := 1<<bit - 2; n <= 1<<bit+2; n++ {
			out = append(out, n, -n)
		}
	}
	return out
}

// numberings are instructions of one operation, of which each in turn of the four numbers is each of some.
func numberings(op int, some []int) []api.Rv {
	var out []api.Rv
	for _, n := range some {
		for _, x := range []api.Rv{{Rd: n}, {Rs1: n}, {Rs2: n}, {Imm: n}} {
			x.Op = op
			out = append(out, x)
		}
	}
	return out
}

// ordinary are allowed instructions of a row, in which what the form has takes its ends and some between.
func ordinary(r row) []api.Rv {
	registers := func(number string) []int {
		if has(r.form, number) {
			return []int{0, 1, 10, 21, 31}
		}
		return []int{0}
	}
	least, most, step := allows(r.form)
	immediates := []int{least, most, 0}
	for n := step; n <= most; n = 2*n + step {
		immediates = append(immediates, n, max(least, -n), n&0x5555a, max(least, -(n&0xaaaa6)))
	}
	slices.Sort(immediates)
	immediates = slices.Compact(immediates)
	var out []api.Rv
	for _, d := range registers("rd") {
		for _, s := range registers("rs1") {
			for _, t := range registers("rs2") {
				for _, n := range immediates {
					out = append(out, api.Rv{Op: r.op, Rd: d, Rs1: s, Rs2: t, Imm: n})
				}
			}
		}
	}
	return out
}

// encoded is the word of an instruction that has to have one.
func encoded(t *testing.T, x api.Rv) uint32 {
	t.Helper()
	w, e := rvcode.Encode(x)
	if e != api.OK {
		t.Fatalf("Encode(%v): %v", x, e)
	}
	return w
}

// refused checks that an instruction has no word.
func refused(t *testing.T, x api.Rv) {
	t.Helper()
	if e := rvcode.Check(x); e != api.ErrArg {
		t.Errorf("Check(%v): %v", x, e)
	}
	if w, e := rvcode.Encode(x); w != 0 || e != api.ErrArg {
		t.Errorf("Encode(%v): %d %v", x, w, e)
	}
}

// P3.1

func TestNamesAndForms(t *testing.T) {
	for i, r := range rows(t) {
		if r.op != i+1 {
			t.Fatal(r)
		}
		if name, form := rvcode.Name(r.op), rvcode.Form(r.op); name != r.name || form != r.form {
			t.Error(r, name, form)
		}
	}
	for _, op := range strays() {
		if name, form := rvcode.Name(op), rvcode.Form(op); name != "" || form != "" {
			t.Error(op, name, form)
		}
	}
}

func TestOperationsAreThoseOfApi(t *testing.T) {
	for op, name := range map[int]string{
		api.RvLui: "lui", api.RvJalr: "jalr", api.RvBgeu: "bgeu", api.RvLwu: "lwu", api.RvSb: "sb", api.RvAndi: "andi", api.RvSrai: "srai",
		api.RvSraiw: "sraiw", api.RvAdd: "add", api.RvAnd: "and", api.RvSraw: "sraw", api.RvMul: "mul", api.RvRemu: "remu", api.RvMulw: "mulw", api.RvRemuw: "remuw", api.RvEcall: "ecall",
	} {
		if got := rvcode.Name(op); got != name {
			t.Error(op, got, name)
		}
	}
}

func TestWhatIsNoOperationIsRefused(t *testing.T) {
	for _, op := range strays() {
		for _, x := range numberings(op, []int{-1, 0, 1, 31, 32}) {
			refused(t, x)
		}
	}
}

func TestNumbersAreAllowedByTheForm(t *testing.T) {
	for _, r := range rows(t) {
		for _, x := range numberings(r.op, edges()) {
			if !allowed(r.form, x) {
				refused(t, x)
				continue
			}
			if e := rvcode.Check(x); e != api.OK {
				t.Errorf("Check(%s %v): %v", r.name, x, e)
			}
			encoded(t, x)
		}
	}
}

func TestOneWrongNumberAmongManyIsSeen(t *testing.T) {
	for _, r := range rows(t) {
		all := ordinary(r)
		for i, x := range all {
			if i%7 != 0 {
				continue
			}
			for _, n := range []int{-1, 32, 33, 1 << 32} {
				d, s, u := x, x, x
				d.Rd, s.Rs1, u.Rs2 = n, n, n
				refused(t, d)
				refused(t, s)
				refused(t, u)
			}
			least, most, step := allows(r.form)
			for _, n := range []int{least - 1, least - step, most + 1, most + step, math.MinInt, math.MaxInt} {
				x.Imm = n
				refused(t, x)
			}
		}
	}
}

func TestCheckExamples(t *testing.T) {
	for _, x := range []api.Rv{{Op: api.RvAddi, Rs2: 1}, {Op: api.RvBeq, Imm: 3}, {Op: 64}} {
		refused(t, x)
	}
}

// P3.2

func TestEncodeIsWhatTheFormsSay(t *testing.T) {
	for _, r := range rows(t) {
		for _, x := range ordinary(r) {
			if e := rvcode.Check(x); e != api.OK {
				t.Errorf("Check(%s %v): %v", r.name, x, e)
			}
			if got, want := encoded(t, x), wordOf(t, r, x); got != want {
				t.Errorf("Encode(%s %v): %#x, not %#x", r.name, x, got, want)
			}
		}
	}
}

func TestExamples(t *testing.T) {
	for _, c := range []struct {
		x    api.Rv
		want uint32
	}{
		{api.Rv{Op: api.RvAddi, Rd: 1, Imm: 1}, 1048723},
		{api.Rv{Op: api.RvAdd, Rd: 2, Rs1: 1, Rs2: 1}, 1081651},
		{api.Rv{Op: api.RvSd, Rs1: 1, Rs2: 2}, 2142243},
		{api.Rv{Op: api.RvBeq, Rs1: 1, Rs2: 2, Imm: -4}, 4263546595},
		{api.Rv{Op: api.RvLui, Rd: 5, Imm: 1}, 4791},
		{api.Rv{Op: api.RvJal, Imm: 8}, 8388719},
		{api.Rv{Op: api.RvEcall}, 115},
		{api.Rv{Op: api.RvSrai, Rd: 1, Rs1: 1, Imm: 63}, 1139855507},
	} {
		if got := encoded(t, c.x); got != c.want {
			t.Errorf("Encode(%v): %d, not %d", c.x, got, c.want)
		}
		if got, e := rvcode.Decode(c.want); got != c.x || e != api.OK {
			t.Errorf("Decode(%d): %v %v, not %v", c.want, got, e, c.x)
		}
	}
}

// decodes checks what a word is decoded as, and that this is encoded as the word.
func decodes(t *testing.T, d reader, w uint32) {
	t.Helper()
	want, ok := d.instruction(w)
	e := api.OK
	if !ok {
		e = api.ErrIllegal
	}
	got, f := rvcode.Decode(w)
	if got != want || f != e {
		t.Fatalf("Decode(%#x): %v %v, not %v %v", w, got, f, want, e)
	}
	if !ok {
		return
	}
	if back, e := rvcode.Encode(got); back != w || e != api.OK {
		t.Fatalf("Encode(Decode(%#x)): %#x %v", w, back, e)
	}
}

func TestDecodeByAllBitsThatTellTheOperation(t *testing.T) {
	d := newReader(t)
	const told = 0xfe00707f
	for i, step := uint32(0), 0; i != 0 || step == 0; i = (i - told) & told {
		others := []uint32{0, 1<<32 - 1, 0x0155, 0x55555555, 0xcccccccc, 0x10820080}[step%6]
		decodes(t, d, i|others&^told)
		step++
	}
	for i := range uint32(1 << 17) {
		decodes(t, d, i)
	}
}

func TestDecodeRefuses(t *testing.T) {
	for _, w := range []uint32{
		0, 1<<32 - 1, 116, 114, // nothing, all, and near ecall
		0x0000000f, 0x0ff0000f, 0x0000100f, // fence, fence.i
		0x00100073, 0x30200073, 0x10500073, 0x00000073 | 1<<7, 0x00000073 | 1<<15, 0x00000073 | 1<<20, 0x00000073 | 1<<31, // ebreak, and others of the system
		0x00001073, 0x00002073, 0xc0002573, // csrrw, csrrs
		0x00001067, 0x00007067, // jalr with another b
		0x00002063, 0x00003063, // branches with others
		0x00007003, 0x00004023, 0x0000201b, // a load, a store, a half with others
		0x04001013, 0x20005013, 0x80005013, 0x44005013, // shifts with another c
		0x0200101b, 0x0200501b, 0x4200501b, // shifts of halves by more than 31
		0x04000033, 0x40001033, 0x60000033, 0x80000033, // others of 51
		0x0200103b, 0x0200203b, 0x0200303b, 0x4000103b, 0x0000203b, // others of 59
		0x00000001, 0x00004501, 0x00008082, 0x0000006b, 0x0000000b, 0x0000002f, 0x00000007, 0x00000053, // short ones, other extensions
	} {
		if x, e := rvcode.Decode(w); x != (api.Rv{}) || e != api.ErrIllegal {
			t.Errorf("Decode(%#x): %v %v", w, x, e)
		}
	}
}

// P3.3

func TestInstructionsComeBack(t *testing.T) {
	for _, r := range rows(t) {
		words := map[uint32]api.Rv{}
		for _, x := range ordinary(r) {
			w := encoded(t, x)
			if other, ok := words[w]; ok {
				t.Fatalf("%v and %v have the word %#x", x, other, w)
			}
			words[w] = x
			if got, e := rvcode.Decode(w); got != x || e != api.OK {
				t.Fatalf("Decode(Encode(%v)): %v %v", x, got, e)
			}
		}
	}
}

func TestImmediatesComeBack(t *testing.T) {
	seen := map[string]struct{}{}
	for _, r := range rows(t) {
		if _, ok := seen[r.form]; ok {
			continue
		}
		seen[r.form] = struct{}{}
		least, most, step := allows(r.form)
		if most > 5000 {
			step *= 17
		}
		for n := least; n <= most; n += step {
			x := api.Rv{Op: r.op, Imm: n}
			if got, e := rvcode.Decode(encoded(t, x)); got != x || e != api.OK {
				t.Fatalf("Decode(Encode(%v)): %v %v", x, got, e)
			}
		}
	}
}

func TestNeighboursOfWords(t *testing.T) {
	d := newReader(t)
	for _, r := range rows(t) {
		all := ordinary(r)
		for _, x := range []api.Rv{all[0], all[len(all)/2], all[len(all)-1]} {
			w := encoded(t, x)
			decodes(t, d, w)
			for bit := range 32 {
				decodes(t, d, w^1<<bit)
			}
		}
	}
}

func TestMixedWords(t *testing.T) {
	d, x := newReader(t), uint64(1)
	for range 100000 {
		x = x*6364136223846793005 + 1442695040888963407
		decodes(t, d, uint32(x>>32))
	}
}
