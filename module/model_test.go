package module_test

import (
	"bytes"
	"slices"
	"testing"

	"twinshaft/api"
	"twinshaft/code"
	"twinshaft/module"
	"twinshaft/op"
)

// two is the number whose lowest byte is the first one of two.
func two(b []byte) int { return int(b[0]) + 256*int(b[1]) }

// want tells what Get answers, by the chapter's words: a bare model that goes from one field to the next.
func want(b []byte) (api.Module, api.Fault) {
	none := api.Module{}
	short := fault(api.ErrBytes, len(b))
	for at, n := range raw(84, 87, 1) {
		if at < len(b) && b[at] != n {
			return none, fault(api.ErrForm, 0)
		}
	}
	if len(b) < 5 {
		return none, short
	}
	data := two(b[3:])
	if data > 8192 {
		return none, fault(api.ErrLong, 3)
	}
	if len(b) < 6+data {
		return none, short
	}
	at := 5 + data
	m := api.Module{Data: b[5:at]}
	many := int(b[at])
	if many == 0 || many > 64 {
		return none, fault(api.ErrArg, at)
	}
	at++
	for range many {
		if len(b) < at+6 {
			return none, short
		}
		f := api.Func{Params: int(b[at]), Regs: int(b[at+1]), Area: two(b[at+2:])}
		size := two(b[at+4:])
		if size > 4096 {
			return none, fault(api.ErrLong, at+4)
		}
		at += 6
		if len(b) < at+size {
			return none, short
		}
		l, _, broken := code.Split(b[at : at+size])
		if broken.Err != api.OK {
			return none, fault(api.ErrForm, at)
		}
		f.Code = l
		m.Funcs = append(m.Funcs, f)
		at += size
	}
	if at < len(b) {
		return none, fault(api.ErrBytes, at)
	}
	if whole(m) != api.OK {
		return none, fault(api.ErrArg, 0)
	}
	return m, api.Fault{}
}

// whole tells what Check answers, by the chapter's words.
func whole(m api.Module) api.Errno {
	if len(m.Data) > 8192 {
		return api.ErrLong
	}
	if len(m.Funcs) == 0 || len(m.Funcs) > 64 {
		return api.ErrArg
	}
	for _, f := range m.Funcs {
		if f.Params < 0 || f.Params > 8 || f.Params > f.Regs || f.Regs > 64 || f.Area < 0 || f.Area > 4096 {
			return api.ErrArg
		}
		if _, e := code.Join(f.Code); e != api.OK {
			return e
		}
		for _, i := range f.Code {
			if e := op.Check(i, f.Regs, f.Area); e != api.OK {
				return e
			}
		}
	}
	return api.OK
}

// mixed tells numbers that look mixed, always the same ones.
type mixed uint64

func (m *mixed) below(n int) int {
	*m = *m*6364136223846793005 + 1442695040888963407
	return int(uint64(*m)>>33) % n
}

// ins is an instruction that is valid with so many registers, more than none, and bytes of area.
func (m *mixed) ins(regs, area int) api.Ins {
	i := api.Ins{Op: m.below(api.Ops)}
	registers := []*int{&i.A, &i.B, &i.C}
	for _, letter := range op.Shape(i.Op) {
		switch letter {
		case 'w', 'r':
			*registers[0], registers = m.below(regs), registers[1:]
		case 'i':
			i.N = m.below(1<<31)<<33 - m.below(1<<31)
		case 'k', 'm':
			i.N = 1 + m.below(6)
		case 'z':
			i.N = 1 << m.below(4)
		case 'f':
			i.N = m.below(area + 1)
		case 'd':
			i.N = m.below(8193)
		case 't':
			i.N = m.below(4096)
		case 'c':
			i.N = m.below(64)
		case 'l':
			for range m.below(9) {
				i.Args = append(i.Args, m.below(regs))
			}
		}
	}
	return i
}

// module is a valid module.
func (m *mixed) module() api.Module {
	var out api.Module
	for range m.below(20) {
		out.Data = append(out.Data, byte(m.below(256)))
	}
	for range 1 + m.below(4) {
		f := api.Func{Regs: m.below(65), Area: m.below(4097)}
		f.Params = m.below(min(f.Regs, 8) + 1)
		if f.Regs > 0 {
			for range m.below(6) {
				f.Code = append(f.Code, m.ins(f.Regs, f.Area))
			}
		}
		out.Funcs = append(out.Funcs, f)
	}
	return out
}

// spoil changes some bytes, drops some, or adds some.
func (m *mixed) spoil(b []byte) []byte {
	out := bytes.Clone(b)
	edges := raw(0, 1, 8, 9, 16, 17, 32, 33, 63, 64, 65, 255)
	for range m.below(3) {
		out[m.below(len(out))] = edges[m.below(len(edges))]
	}
	switch m.below(4) {
	case 0:
		out = out[:m.below(len(out)+1)]
	case 1:
		at := m.below(len(out) + 1)
		out = slices.Insert(out, at, byte(m.below(256)))
	}
	return out
}

func likeTheModel(t *testing.T, b []byte) api.Fault {
	t.Helper()
	m, f := module.Get(b)
	wantM, wantF := want(b)
	if f != wantF || !module.Same(m, wantM) {
		t.Fatalf("% d: %+v %v, not %+v %v", b, m, f, wantM, wantF)
	}
	if f.At < 0 || f.At > len(b) {
		t.Fatalf("% d: %v", b, f)
	}
	if f.Err == api.OK {
		if again, e := module.Put(m); e != api.OK || !bytes.Equal(again, b) {
			t.Fatalf("% d is put as % d %v", b, again, e)
		}
	}
	return f
}

// P8.1

func TestCheckLikeTheModel(t *testing.T) {
	var m mixed
	numbers := []int{-1, 0, 1, 7, 8, 9, 63, 64, 65, 4095, 4096, 4097}
	met := map[api.Errno]int{}
	for range 60000 {
		x := m.module()
		for range m.below(3) {
			f := &x.Funcs[m.below(len(x.Funcs))]
			n := numbers[m.below(len(numbers))]
			switch m.below(6) {
			case 0:
				f.Params = n
			case 1:
				f.Regs = n
			case 2:
				f.Area = n
			case 3:
				f.Code = append(f.Code, api.Ins{Op: m.below(35), A: n})
			case 4:
				f.Code = append([]api.Ins{{Op: api.OpCall, N: n, Args: make([]int, m.below(11))}}, f.Code...)
			case 5:
				x.Funcs = slices.Repeat(x.Funcs, m.below(20))
			}
			if len(x.Funcs) == 0 {
				break
			}
		}
		e := module.Check(x)
		if e != whole(x) {
			t.Fatalf("%+v: %v, not %v", x, e, whole(x))
		}
		met[e]++
	}
	for _, e := range []api.Errno{api.OK, api.ErrArg, api.ErrLong, api.ErrRange, api.ErrIllegal} {
		if met[e] < 100 {
			t.Errorf("%v met %d times only", e, met[e])
		}
	}
}

// P8.2, P8.3

func TestFewBytesLikeTheModel(t *testing.T) {
	likeTheModel(t, nil)
	some := raw(0, 1, 2, 7, 30, 31, 32, 33, 63, 64, 65, 84, 87, 255)
	for first := range 256 {
		likeTheModel(t, raw(byte(first)))
		for second := range 256 {
			likeTheModel(t, raw(byte(first), byte(second)))
			likeTheModel(t, raw(84, 87, 1, byte(first), byte(second)))
			likeTheModel(t, raw(84, 87, 1, 0, 0, byte(first), byte(second)))
			likeTheModel(t, one(byte(first), byte(second), 0, 0, 0, 0))
			likeTheModel(t, one(0, 0, byte(first), byte(second), 0, 0))
			likeTheModel(t, one(0, 0, 0, 0, byte(first), byte(second)))
			likeTheModel(t, one(0, 64, 0, 0, 2, 0, byte(first), byte(second)))
		}
	}
	for _, a := range some {
		for _, b := range some {
			for _, c := range some {
				likeTheModel(t, raw(a, b, c))
				likeTheModel(t, raw(84, 87, 1, a, 0, b, c))
			}
		}
	}
}

func TestEachPlaceLikeTheModel(t *testing.T) {
	_, b := large()
	for at := range b {
		for n := range 256 {
			x := bytes.Clone(b)
			x[at] = byte(n)
			likeTheModel(t, x)
			likeTheModel(t, x[:at+1])
		}
	}
}

func TestSpoiledBytesLikeTheModel(t *testing.T) {
	var m mixed
	met := map[api.Errno]int{}
	for range 100000 {
		b, e := module.Put(m.module())
		if e != api.OK {
			t.Fatal(e)
		}
		met[likeTheModel(t, m.spoil(b)).Err]++
	}
	for _, e := range []api.Errno{api.OK, api.ErrArg, api.ErrLong, api.ErrBytes, api.ErrForm} {
		if met[e] < 500 {
			t.Errorf("%v met %d times only", e, met[e])
		}
	}
}

func TestWhatIsPutIsRead(t *testing.T) {
	var m mixed
	met := map[int]int{}
	for range 20000 {
		x := m.module()
		b, e := module.Put(x)
		if e != api.OK {
			t.Fatalf("%+v: %v", x, e)
		}
		if f := likeTheModel(t, b); f != (api.Fault{}) {
			t.Fatalf("%+v: %v", x, f)
		}
		if got, _ := module.Get(b); !module.Same(got, x) {
			t.Fatalf("%+v is read as %+v", x, got)
		}
		for _, f := range x.Funcs {
			for _, i := range f.Code {
				met[i.Op]++
			}
		}
	}
	for n := range api.Ops {
		if met[n] < 100 {
			t.Errorf("%s met %d times only", op.Name(n), met[n])
		}
	}
}

func TestTheLargestModule(t *testing.T) {
	x := api.Module{Data: bytes.Repeat(raw(1, 2), 4096)}
	for range 64 {
		x.Funcs = append(x.Funcs, api.Func{Params: 8, Regs: 64, Area: 4096, Code: slices.Repeat([]api.Ins{{Op: api.OpAdd, A: 63, B: 1, C: 2}}, 1024)})
	}
	b, e := module.Put(x)
	if e != api.OK || len(b) != 3+2+8192+1+64*(6+4096) {
		t.Fatal(len(b), e)
	}
	if f := likeTheModel(t, b); f != (api.Fault{}) {
		t.Error(f)
	}
	likeTheModel(t, append(b, 0))
}
