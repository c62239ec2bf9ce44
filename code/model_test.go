package code_test

import (
	"bytes"
	"slices"
	"strings"
	"testing"

	"twinshaft/api"
	"twinshaft/code"
	"twinshaft/op"
)

// shape is a row of the chapter's list of operations, by their numbers.
func shape(number byte) string {
	switch {
	case number >= api.OpAdd && number <= api.OpNe:
		return "wrr"
	case number == api.OpNop:
		return ""
	case number < api.OpExt:
		return []string{api.OpConst: "wi", api.OpMov: "wr"}[number]
	}
	return []string{"wrk", "wrm", "rrz", "wf", "wd", "t", "rt", "rt", "wcl", "r", "w", "r", "r"}[number-api.OpExt]
}

// fixed is how many bytes an instruction has at least: all but the elements of an l.
func fixed(number byte) int {
	many := 1 + len(shape(number))
	if strings.ContainsAny(shape(number), "fdt") {
		many++
	}
	if number == api.OpConst {
		many += 7
	}
	return many
}

// want tells what Get answers, by the chapter's words: a bare model that asks for one fault after the other.
func want(b []byte, at int) (api.Ins, int, api.Fault) {
	refuse := func(e api.Errno, at int) (api.Ins, int, api.Fault) {
		return api.Ins{}, 0, api.Fault{Err: e, At: at}
	}
	if at < 0 || at > len(b) {
		return refuse(api.ErrArg, 0)
	}
	rest := b[at:]
	if len(rest) == 0 {
		return refuse(api.ErrBytes, len(b))
	}
	if rest[0] > 32 {
		return refuse(api.ErrIllegal, at)
	}
	need := fixed(rest[0])
	if len(rest) < need {
		return refuse(api.ErrBytes, len(b))
	}
	if rest[0] == api.OpCall {
		if rest[3] > 8 {
			return refuse(api.ErrLong, at)
		}
		need += int(rest[3])
	}
	if len(rest) < need {
		return refuse(api.ErrBytes, len(b))
	}
	i := read(rest[:need])
	if op.Check(i, 64, 4096) != api.OK {
		return refuse(api.ErrRange, at)
	}
	return i, at + need, api.Fault{}
}

// read is the instruction whose bytes these are, whatever its fields hold.
func read(b []byte) api.Ins {
	i := api.Ins{Op: int(b[0])}
	letters := shape(b[0])
	two := func(at int) int { return int(b[at]) + 256*int(b[at+1]) }
	named := strings.Count(letters, "w") + strings.Count(letters, "r")
	for at, field := range []*int{&i.A, &i.B, &i.C}[:named] {
		*field = int(b[1+at])
	}
	switch {
	case i.Op == api.OpConst:
		for at := 9; at >= 2; at-- {
			i.N = i.N*256 + int(b[at])
		}
	case i.Op == api.OpCall:
		i.N = int(b[2])
		for _, n := range b[4:] {
			i.Args = append(i.Args, int(n))
		}
	case strings.ContainsAny(letters, "fdt"):
		i.N = two(1 + named)
	case strings.ContainsAny(letters, "kmz"):
		i.N = int(b[1+named])
	}
	return i
}

// mixed tells numbers that look mixed, always the same ones.
type mixed uint64

func (m *mixed) below(n int) int {
	*m = *m*6364136223846793005 + 1442695040888963407
	return int(uint64(*m)>>33) % n
}

// low bytes are frequent, and the edges of fields.
func (m *mixed) byte() byte {
	all := raw(0, 1, 2, 3, 4, 5, 6, 7, 8, 9, 15, 16, 31, 32, 33, 62, 63, 64, 127, 128, 255)
	if m.below(4) == 0 {
		return byte(m.below(256))
	}
	return all[m.below(len(all))]
}

func (m *mixed) bytes(many int) []byte {
	out := make([]byte, many)
	for at := range out {
		out[at] = m.byte()
	}
	return out
}

// valid is an instruction that can be put.
func (m *mixed) valid() api.Ins {
	i := api.Ins{Op: m.below(api.Ops)}
	letters := shape(byte(i.Op))
	named := strings.Count(letters, "w") + strings.Count(letters, "r")
	for _, field := range []*int{&i.A, &i.B, &i.C}[:named] {
		*field = m.below(64)
	}
	for _, letter := range letters {
		switch letter {
		case 'i':
			i.N = m.below(1<<31)<<33 + m.below(1<<31)<<3 - m.below(9)
			if m.below(3) == 0 {
				i.N = m.below(5) - 2
			}
		case 'k':
			i.N = 1 + m.below(6)
		case 'm':
			i.N = 1 + m.below(7)
		case 'z':
			i.N = 1 << m.below(4)
		case 'f':
			i.N = m.below(4097)
		case 'd':
			i.N = m.below(8193)
		case 't':
			i.N = m.below(4096)
		case 'c':
			i.N = m.below(64)
		case 'l':
			for range m.below(9) {
				i.Args = append(i.Args, m.below(64))
			}
		}
	}
	return i
}

func likeTheModel(t *testing.T, b []byte, at int) api.Errno {
	t.Helper()
	i, after, f := code.Get(b, at)
	wantI, wantAfter, wantF := want(b, at)
	if f != wantF || after != wantAfter || !op.Same(i, wantI) {
		t.Fatalf("% d at %d: %+v %d %v, not %+v %d %v", b, at, i, after, f, wantI, wantAfter, wantF)
	}
	return f.Err
}

// P7.2

func TestGetLikeTheModelOnFewBytes(t *testing.T) {
	likeTheModel(t, nil, 0)
	for first := range 256 {
		likeTheModel(t, raw(byte(first)), 0)
		for second := range 256 {
			likeTheModel(t, raw(byte(first), byte(second)), 0)
			likeTheModel(t, raw(byte(first), byte(second)), 1)
		}
	}
	some := raw(0, 1, 2, 3, 4, 5, 6, 7, 8, 9, 16, 63, 64, 255)
	for number := range byte(34) {
		for _, a := range some {
			for _, b := range some {
				likeTheModel(t, raw(number, a, b), 0)
				for _, c := range some {
					likeTheModel(t, raw(number, a, b, c), 0)
				}
			}
		}
	}
}

func TestGetLikeTheModelOnTwoByteNumbers(t *testing.T) {
	for _, number := range raw(api.OpLea, api.OpData, api.OpBrz, api.OpBrnz) {
		for n := range 1 << 16 {
			likeTheModel(t, raw(number, 7, byte(n), byte(n>>8)), 0)
		}
	}
	for n := range 1 << 16 {
		likeTheModel(t, raw(api.OpJmp, byte(n), byte(n>>8)), 0)
	}
}

func TestGetLikeTheModel(t *testing.T) {
	var m mixed
	met := map[api.Errno]int{}
	for range 60000 {
		b := m.bytes(m.below(20))
		if m.below(3) == 0 {
			b = append(m.bytes(m.below(3)), api.OpCall, m.byte()%80, m.byte()%80, byte(m.below(10)))
			for range m.below(12) {
				b = append(b, m.byte()%66)
			}
		}
		met[likeTheModel(t, b, m.below(len(b)+3)-1)]++
	}
	for _, e := range []api.Errno{api.OK, api.ErrArg, api.ErrBytes, api.ErrIllegal, api.ErrLong, api.ErrRange} {
		if met[e] < 100 {
			t.Errorf("%v met %d times only", e, met[e])
		}
	}
}

// P7.3, P7.4

func TestWhatIsPutIsRead(t *testing.T) {
	var m mixed
	met := map[int]int{}
	for range 30000 {
		i := m.valid()
		met[i.Op]++
		b, e := code.Put(i)
		if e != api.OK || len(b) != code.Length(i) {
			t.Fatalf("%+v: % d %v, %d", i, b, e, code.Length(i))
		}
		before, behind := m.bytes(m.below(4)), m.bytes(m.below(4))
		got, after, f := code.Get(slices.Concat(before, b, behind), len(before))
		if f != (api.Fault{}) || after != len(before)+len(b) || !op.Same(got, i) {
			t.Fatalf("%+v is read as %+v %d %v", i, got, after, f)
		}
		for many := range b {
			if _, _, f := code.Get(b[:many], 0); f != fault(api.ErrBytes, many) {
				t.Fatalf("% d is a part of % d: %v", b[:many], b, f)
			}
		}
	}
	for n := range api.Ops {
		if met[n] < 100 {
			t.Errorf("%s met %d times only", op.Name(n), met[n])
		}
	}
}

func TestWhatIsReadIsPut(t *testing.T) {
	var m mixed
	met := map[int]int{}
	for range 100000 {
		b := m.bytes(1 + m.below(14))
		b[0] %= 35
		i, after, f := code.Get(b, 0)
		if f.Err != api.OK {
			continue
		}
		met[i.Op]++
		again, e := code.Put(i)
		if e != api.OK || !bytes.Equal(again, b[:after]) || code.Length(i) != after {
			t.Fatalf("% d is read as %+v, put as % d %v", b[:after], i, again, e)
		}
	}
	for n := range api.Ops {
		if met[n] < 50 {
			t.Errorf("%s met %d times only", op.Name(n), met[n])
		}
	}
}

func TestWhatIsJoinedIsSplit(t *testing.T) {
	var m mixed
	long := 0
	for range 300 {
		var l []api.Ins
		var at []int
		var b []byte
		for range m.below(1500) {
			i := m.valid()
			one, _ := code.Put(i)
			l, at, b = append(l, i), append(at, len(b)), append(b, one...)
		}
		joined, e := code.Join(l)
		if len(b) > 4096 {
			long++
			if e != api.ErrLong || len(joined) != 0 {
				t.Fatalf("%d bytes: %v", len(b), e)
			}
			continue
		}
		if e != api.OK || !bytes.Equal(joined, b) {
			t.Fatalf("%+v: % d %v", l, joined, e)
		}
		got, places, f := code.Split(joined)
		if f != (api.Fault{}) || !slices.Equal(places, at) || !slices.EqualFunc(got, l, op.Same) {
			t.Fatalf("% d: %+v %v %v", joined, got, places, f)
		}
	}
	if long < 20 || long > 280 {
		t.Errorf("%d of 300 were too long", long)
	}
}

func TestWhatIsSplitIsJoined(t *testing.T) {
	var m mixed
	good := 0
	for range 100000 {
		b := m.bytes(m.below(9))
		l, places, f := code.Split(b)
		if f != firstFault(b) {
			t.Fatalf("% d: %v, not %v", b, f, firstFault(b))
		}
		if f.Err != api.OK {
			if len(l) != 0 || len(places) != 0 {
				t.Fatalf("% d: %v %v beside %v", b, l, places, f)
			}
			continue
		}
		good++
		if joined, e := code.Join(l); e != api.OK || !bytes.Equal(joined, b) || len(places) != len(l) {
			t.Fatalf("% d is split as %+v %v, joined as % d %v", b, l, places, joined, e)
		}
	}
	if good < 2000 {
		t.Errorf("%d were split", good)
	}
}

// firstFault is the first fault of the model, one instruction after the other.
func firstFault(b []byte) api.Fault {
	for at := 0; at < len(b); {
		_, after, f := want(b, at)
		if f.Err != api.OK {
			return f
		}
		at = after
	}
	return api.Fault{}
}
