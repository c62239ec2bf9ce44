package code_test

import (
	"bytes"
	"math"
	"slices"
	"testing"

	"twinshaft/api"
	"twinshaft/code"
	"twinshaft/op"
)

// held is an instruction, and its bytes.
type held struct {
	i api.Ins
	b []byte
}

func list(n ...int) []int { return n }

func raw(n ...byte) []byte { return n }

// eachForm has, for each operation, one instruction with as many different fields as it has, and its bytes written out by hand.
func eachForm() []held {
	all := []held{
		{api.Ins{Op: api.OpNop}, raw(0)},
		{api.Ins{Op: api.OpConst, A: 5, N: 0x0807060504030201}, raw(1, 5, 1, 2, 3, 4, 5, 6, 7, 8)},
		{api.Ins{Op: api.OpMov, A: 5, B: 6}, raw(2, 5, 6)},
		{api.Ins{Op: api.OpExt, A: 5, B: 6, N: 4}, raw(20, 5, 6, 4)},
		{api.Ins{Op: api.OpLoad, A: 5, B: 6, N: 7}, raw(21, 5, 6, 7)},
		{api.Ins{Op: api.OpStore, A: 5, B: 6, N: 8}, raw(22, 5, 6, 8)},
		{api.Ins{Op: api.OpLea, A: 5, N: 258}, raw(23, 5, 2, 1)},
		{api.Ins{Op: api.OpData, A: 5, N: 258}, raw(24, 5, 2, 1)},
		{api.Ins{Op: api.OpJmp, N: 258}, raw(25, 2, 1)},
		{api.Ins{Op: api.OpBrz, A: 5, N: 258}, raw(26, 5, 2, 1)},
		{api.Ins{Op: api.OpBrnz, A: 5, N: 258}, raw(27, 5, 2, 1)},
		{api.Ins{Op: api.OpCall, A: 5, N: 9, Args: list(6, 7, 8)}, raw(28, 5, 9, 3, 6, 7, 8)},
		{api.Ins{Op: api.OpRet, A: 5}, raw(29, 5)},
		{api.Ins{Op: api.OpGetb, A: 5}, raw(30, 5)},
		{api.Ins{Op: api.OpPutb, A: 5}, raw(31, 5)},
		{api.Ins{Op: api.OpExit, A: 5}, raw(32, 5)},
	}
	for n := api.OpAdd; n <= api.OpNe; n++ {
		all = append(all, held{api.Ins{Op: n, A: 5, B: 6, C: 7}, raw(byte(n), 5, 6, 7)})
	}
	return all
}

// edges are instructions at the edges of their fields, and their bytes.
func edges() []held {
	return []held{
		{api.Ins{Op: api.OpConst, A: 1, N: -2}, raw(1, 1, 254, 255, 255, 255, 255, 255, 255, 255)},
		{api.Ins{Op: api.OpConst, A: 63, N: 0}, raw(1, 63, 0, 0, 0, 0, 0, 0, 0, 0)},
		{api.Ins{Op: api.OpConst, N: -1}, raw(1, 0, 255, 255, 255, 255, 255, 255, 255, 255)},
		{api.Ins{Op: api.OpConst, N: math.MaxInt}, raw(1, 0, 255, 255, 255, 255, 255, 255, 255, 127)},
		{api.Ins{Op: api.OpConst, N: math.MinInt}, raw(1, 0, 0, 0, 0, 0, 0, 0, 0, 128)},
		{api.Ins{Op: api.OpConst, N: 255}, raw(1, 0, 255, 0, 0, 0, 0, 0, 0, 0)},
		{api.Ins{Op: api.OpConst, N: 1 << 32}, raw(1, 0, 0, 0, 0, 0, 1, 0, 0, 0)},
		{api.Ins{Op: api.OpAdd, B: 1, C: 2}, raw(3, 0, 1, 2)},
		{api.Ins{Op: api.OpNe, A: 63, B: 63, C: 63}, raw(19, 63, 63, 63)},
		{api.Ins{Op: api.OpExt, N: 1}, raw(20, 0, 0, 1)},
		{api.Ins{Op: api.OpExt, N: 6}, raw(20, 0, 0, 6)},
		{api.Ins{Op: api.OpLoad, N: 1}, raw(21, 0, 0, 1)},
		{api.Ins{Op: api.OpStore, N: 1}, raw(22, 0, 0, 1)},
		{api.Ins{Op: api.OpStore, N: 2}, raw(22, 0, 0, 2)},
		{api.Ins{Op: api.OpStore, N: 4}, raw(22, 0, 0, 4)},
		{api.Ins{Op: api.OpLea, N: 0}, raw(23, 0, 0, 0)},
		{api.Ins{Op: api.OpLea, N: 4096}, raw(23, 0, 0, 16)},
		{api.Ins{Op: api.OpData, N: 8192}, raw(24, 0, 0, 32)},
		{api.Ins{Op: api.OpData, N: 255}, raw(24, 0, 255, 0)},
		{api.Ins{Op: api.OpJmp, N: 0}, raw(25, 0, 0)},
		{api.Ins{Op: api.OpJmp, N: 4095}, raw(25, 255, 15)},
		{api.Ins{Op: api.OpBrz, A: 1, N: 300}, raw(26, 1, 44, 1)},
		{api.Ins{Op: api.OpCall, A: 3, N: 5, Args: list(1, 2)}, raw(28, 3, 5, 2, 1, 2)},
		{api.Ins{Op: api.OpCall, A: 63, N: 63}, raw(28, 63, 63, 0)},
		{api.Ins{Op: api.OpCall, Args: list(0)}, raw(28, 0, 0, 1, 0)},
		{api.Ins{Op: api.OpCall, Args: list(63, 1, 62, 2, 61, 3, 60, 3)}, raw(28, 0, 0, 8, 63, 1, 62, 2, 61, 3, 60, 3)},
	}
}

// P7.1

func TestPut(t *testing.T) {
	met := map[int]int{}
	for _, x := range append(eachForm(), edges()...) {
		met[x.i.Op]++
		b, e := code.Put(x.i)
		if e != api.OK || !bytes.Equal(b, x.b) {
			t.Errorf("%+v: % d %v, not % d", x.i, b, e, x.b)
		}
		if n := code.Length(x.i); n != len(x.b) {
			t.Errorf("%+v has %d bytes, not %d", x.i, n, len(x.b))
		}
	}
	if len(met) != api.Ops {
		t.Errorf("%d operations", len(met))
	}
	if b, e := code.Put(api.Ins{Op: api.OpCall, Args: []int{}}); e != api.OK || !bytes.Equal(b, raw(28, 0, 0, 0)) {
		t.Error(b, e)
	}
}

// refused has instructions that cannot be put, by the error.
func refused() map[api.Errno][]api.Ins {
	nine := make([]int, 9)
	return map[api.Errno][]api.Ins{
		api.ErrIllegal: {{Op: 33}, {Op: -1}, {Op: 256}, {Op: 259}, {Op: math.MinInt}, {Op: math.MaxInt}, {Op: 33, A: 64, N: 1, Args: nine}},
		api.ErrArg: {
			{A: 1}, {B: 1}, {C: -1}, {N: 1}, {Args: list(0)}, {N: 1 << 32},
			{Op: api.OpMov, C: 1}, {Op: api.OpAdd, N: 1}, {Op: api.OpAdd, A: 64, N: 1}, {Op: api.OpConst, B: 1}, {Op: api.OpJmp, A: 1},
			{Op: api.OpBrz, B: 1}, {Op: api.OpRet, N: 1}, {Op: api.OpRet, Args: nine}, {Op: api.OpCall, B: 1, Args: nine}, {Op: api.OpCall, C: 1},
		},
		api.ErrLong: {{Op: api.OpCall, Args: nine}, {Op: api.OpCall, A: 64, N: 64, Args: nine}, {Op: api.OpCall, Args: make([]int, 256)}, {Op: api.OpCall, Args: make([]int, 1000)}},
		api.ErrRange: {
			{Op: api.OpMov, A: 64}, {Op: api.OpMov, B: 64}, {Op: api.OpMov, A: -1}, {Op: api.OpMov, A: 256}, {Op: api.OpAdd, C: 64}, {Op: api.OpAdd, B: math.MinInt},
			{Op: api.OpConst, A: 64}, {Op: api.OpExt}, {Op: api.OpExt, N: 7}, {Op: api.OpLoad}, {Op: api.OpLoad, N: 8}, {Op: api.OpLoad, N: 257},
			{Op: api.OpStore}, {Op: api.OpStore, N: 3}, {Op: api.OpStore, N: 16}, {Op: api.OpStore, N: 5}, {Op: api.OpStore, N: 260},
			{Op: api.OpLea, N: 4097}, {Op: api.OpLea, N: -1}, {Op: api.OpData, N: 8193}, {Op: api.OpData, N: 65536}, {Op: api.OpJmp, N: 4096}, {Op: api.OpJmp, N: -1},
			{Op: api.OpBrnz, N: 65537}, {Op: api.OpCall, N: 64}, {Op: api.OpCall, N: 256}, {Op: api.OpCall, Args: list(64)}, {Op: api.OpCall, Args: list(0, -1)},
			{Op: api.OpRet, A: 64}, {Op: api.OpGetb, A: 64}, {Op: api.OpPutb, A: 64}, {Op: api.OpExit, A: 1 << 32},
		},
	}
}

func TestPutRefuses(t *testing.T) {
	for want, all := range refused() {
		for _, i := range all {
			if b, e := code.Put(i); e != want || len(b) != 0 {
				t.Errorf("%+v: % d %v, not %v", i, b, e, want)
			}
			if n := code.Length(i); n != 0 {
				t.Errorf("%+v has %d bytes", i, n)
			}
		}
	}
}

// P7.2

func TestGet(t *testing.T) {
	for _, x := range append(eachForm(), edges()...) {
		for before := range 3 {
			for behind := range 3 {
				b := slices.Concat(bytes.Repeat(raw(255), before), x.b, bytes.Repeat(raw(255), behind))
				i, after, f := code.Get(b, before)
				if f != (api.Fault{}) || after != before+len(x.b) || !op.Same(i, x.i) {
					t.Errorf("% d at %d: %+v %d %v", b, before, i, after, f)
				}
			}
		}
	}
	i, after, f := code.Get(raw(0, 3, 0, 1, 2), 1)
	if f != (api.Fault{}) || after != 5 || !op.Same(i, api.Ins{Op: api.OpAdd, B: 1, C: 2}) {
		t.Error(i, after, f)
	}
}

// asked is a question to Get, and the fault that is its answer.
type asked struct {
	b    []byte
	at   int
	want api.Fault
}

func fault(e api.Errno, at int) api.Fault { return api.Fault{Err: e, At: at} }

func refuses(t *testing.T, all []asked) {
	t.Helper()
	for _, x := range all {
		i, after, f := code.Get(x.b, x.at)
		if f != x.want || after != 0 || !op.Same(i, api.Ins{}) {
			t.Errorf("% d at %d: %+v %d %v, not %v", x.b, x.at, i, after, f, x.want)
		}
	}
}

func TestGetAtNoPlace(t *testing.T) {
	for _, b := range [][]byte{nil, raw(), raw(0), raw(33), raw(0, 0, 29, 1), make([]byte, 5000)} {
		for _, at := range []int{math.MinInt, -1 << 32, -2, -1, len(b) + 1, len(b) + 2, 1 << 32, math.MaxInt} {
			refuses(t, []asked{{b, at, fault(api.ErrArg, 0)}})
		}
		refuses(t, []asked{{b, len(b), fault(api.ErrBytes, len(b))}})
	}
}

func TestGetWhereBytesAreMissing(t *testing.T) {
	for _, x := range append(eachForm(), edges()...) {
		for many := range x.b {
			refuses(t, []asked{
				{x.b[:many], 0, fault(api.ErrBytes, many)},
				{slices.Clip(x.b[:many]), 0, fault(api.ErrBytes, many)},
				{append(raw(33, 0, 99), x.b[:many]...), 3, fault(api.ErrBytes, many+3)},
			})
		}
	}
	refuses(t, []asked{
		{raw(3, 0, 1), 0, fault(api.ErrBytes, 3)},
		{nil, 0, fault(api.ErrBytes, 0)},
	})
}

func TestGetOfNoOperation(t *testing.T) {
	for n := api.Ops; n < 256; n++ {
		for many := range 4 {
			b := append(raw(0, 0, byte(n)), make([]byte, many)...)
			refuses(t, []asked{{b[2:], 0, fault(api.ErrIllegal, 0)}, {b, 2, fault(api.ErrIllegal, 2)}})
		}
	}
}

func TestGetOfTooManyArgs(t *testing.T) {
	for many := 9; many < 256; many++ {
		for there := range 12 {
			b := append(raw(7, 28, 3, 5, byte(many)), make([]byte, there)...)
			refuses(t, []asked{{b, 1, fault(api.ErrLong, 1)}, {b[1:], 0, fault(api.ErrLong, 0)}})
		}
	}
}

func TestGetOfNumbersOutOfRange(t *testing.T) {
	for _, b := range [][]byte{
		raw(1, 64, 0, 0, 0, 0, 0, 0, 0, 0), raw(2, 64, 0), raw(2, 0, 64), raw(2, 255, 0), raw(3, 64, 0, 0), raw(3, 0, 64, 0), raw(3, 0, 0, 64), raw(19, 0, 0, 128),
		raw(20, 0, 0, 0), raw(20, 0, 0, 7), raw(20, 64, 0, 1), raw(21, 0, 0, 0), raw(21, 0, 0, 8), raw(21, 0, 64, 7),
		raw(22, 0, 0, 0), raw(22, 0, 0, 3), raw(22, 0, 0, 5), raw(22, 0, 0, 7), raw(22, 0, 0, 16), raw(22, 0, 0, 255), raw(22, 64, 0, 1),
		raw(23, 0, 1, 16), raw(23, 0, 255, 255), raw(23, 64, 0, 0), raw(24, 0, 1, 32), raw(24, 0, 0, 128), raw(24, 64, 0, 0),
		raw(25, 0, 16), raw(25, 255, 255), raw(26, 0, 0, 16), raw(26, 64, 0, 0), raw(27, 0, 0, 16), raw(27, 64, 0, 0),
		raw(28, 64, 0, 0), raw(28, 0, 64, 0), raw(28, 0, 255, 0), raw(28, 0, 0, 1, 64), raw(28, 0, 0, 8, 0, 0, 0, 0, 0, 0, 0, 255),
		raw(29, 64), raw(30, 64), raw(31, 64), raw(32, 64), raw(32, 255),
	} {
		refuses(t, []asked{
			{b, 0, fault(api.ErrRange, 0)},
			{append(raw(0, 99), b...), 2, fault(api.ErrRange, 2)},
			{append(slices.Clone(b), 33, 33), 0, fault(api.ErrRange, 0)},
			{b[:len(b)-1], 0, fault(api.ErrBytes, len(b)-1)},
		})
	}
}

func TestGetOrder(t *testing.T) {
	refuses(t, []asked{
		{raw(33), 2, fault(api.ErrArg, 0)},
		{raw(28, 99, 99, 9), -1, fault(api.ErrArg, 0)},
		{raw(28), 0, fault(api.ErrBytes, 1)},
		{raw(28, 99), 0, fault(api.ErrBytes, 2)},
		{raw(28, 99, 99), 0, fault(api.ErrBytes, 3)},
		{raw(28, 99, 99, 9), 0, fault(api.ErrLong, 0)},
		{raw(28, 3, 5, 9), 0, fault(api.ErrLong, 0)},
		{raw(28, 99, 99, 8), 0, fault(api.ErrBytes, 4)},
		{raw(28, 99, 99, 2, 99), 0, fault(api.ErrBytes, 5)},
		{raw(28, 0, 0, 1, 99), 0, fault(api.ErrRange, 0)},
		{raw(28, 99, 0, 0), 0, fault(api.ErrRange, 0)},
		{raw(33), 0, fault(api.ErrIllegal, 0)},
		{raw(2, 64, 0), 0, fault(api.ErrRange, 0)},
		{raw(2, 64), 0, fault(api.ErrBytes, 2)},
	})
}

// P7.3

func TestJoin(t *testing.T) {
	for _, x := range []struct {
		l []api.Ins
		b []byte
		e api.Errno
	}{
		{nil, nil, api.OK},
		{[]api.Ins{}, nil, api.OK},
		{[]api.Ins{{}, {}, {Op: api.OpRet, A: 1}}, raw(0, 0, 29, 1), api.OK},
		{[]api.Ins{{Op: api.OpGetb}, {Op: api.OpPutb}, {Op: api.OpExit}}, raw(30, 0, 31, 0, 32, 0), api.OK},
		{[]api.Ins{{}, {Op: api.OpRet, A: 64}, {Op: 33}}, nil, api.ErrRange},
		{[]api.Ins{{}, {Op: 33}, {Op: api.OpRet, A: 64}}, nil, api.ErrIllegal},
		{[]api.Ins{{A: 1}, {Op: 33}}, nil, api.ErrArg},
		{[]api.Ins{{Op: api.OpCall, Args: make([]int, 9)}, {Op: 33}}, nil, api.ErrLong},
	} {
		b, e := code.Join(x.l)
		if e != x.e || !bytes.Equal(b, x.b) {
			t.Errorf("%+v: % d %v, not % d %v", x.l, b, e, x.b, x.e)
		}
	}
	var l []api.Ins
	var want []byte
	for _, x := range append(eachForm(), edges()...) {
		l, want = append(l, x.i), append(want, x.b...)
	}
	if b, e := code.Join(l); e != api.OK || !bytes.Equal(b, want) {
		t.Errorf("% d %v, not % d", b, e, want)
	}
}

func TestJoinOfTooMuch(t *testing.T) {
	nops := make([]api.Ins, 4097)
	bad := api.Ins{Op: api.OpMov, A: 64}
	rets := slices.Repeat([]api.Ins{{Op: api.OpRet}}, 2049)
	for at, x := range []struct {
		l    []api.Ins
		want int
		e    api.Errno
	}{
		{nops[:4095], 4095, api.OK},
		{nops[:4096], 4096, api.OK},
		{nops, 0, api.ErrLong},
		{slices.Repeat(nops, 5), 0, api.ErrLong},
		{rets[:2048], 4096, api.OK},
		{rets, 0, api.ErrLong},
		{append(slices.Clone(nops[:4095]), api.Ins{Op: api.OpRet}), 0, api.ErrLong},
		{append(slices.Clone(nops[:4094]), api.Ins{Op: api.OpRet}), 4096, api.OK},
		{append([]api.Ins{{Op: api.OpConst}}, nops[:4086]...), 4096, api.OK},
		{append([]api.Ins{{Op: api.OpConst}}, nops[:4087]...), 0, api.ErrLong},
		// The error of an instruction takes precedence over too many bytes, wherever it is.
		{append(slices.Clone(nops), bad), 0, api.ErrRange},
		{append(slices.Clone(nops), nops...), 0, api.ErrLong},
		{append(slices.Repeat(nops, 3), bad, api.Ins{Op: 33}), 0, api.ErrRange},
		{append(slices.Repeat(nops, 3), api.Ins{Op: 33}, bad), 0, api.ErrIllegal},
		{append(slices.Clone(nops[:4096]), bad), 0, api.ErrRange},
		{append([]api.Ins{bad}, nops...), 0, api.ErrRange},
	} {
		b, e := code.Join(x.l)
		if e != x.e || len(b) != x.want {
			t.Errorf("%d: %d bytes, %v, not %d, %v", at, len(b), e, x.want, x.e)
		}
	}
}

func TestSplit(t *testing.T) {
	l, places, f := code.Split(raw(0, 0, 29, 1))
	if f != (api.Fault{}) || !slices.Equal(places, list(0, 1, 2)) || !slices.EqualFunc(l, []api.Ins{{}, {}, {Op: api.OpRet, A: 1}}, op.Same) {
		t.Error(l, places, f)
	}
	var b []byte
	var want []api.Ins
	var at []int
	for _, x := range append(eachForm(), edges()...) {
		want, at, b = append(want, x.i), append(at, len(b)), append(b, x.b...)
	}
	l, places, f = code.Split(b)
	if f != (api.Fault{}) || !slices.Equal(places, at) || !slices.EqualFunc(l, want, op.Same) {
		t.Error(l, places, f)
	}
	for _, b := range [][]byte{nil, {}} {
		if l, places, f := code.Split(b); f != (api.Fault{}) || len(l) != 0 || len(places) != 0 {
			t.Error(l, places, f)
		}
	}
	l, places, f = code.Split(make([]byte, 4096))
	if f != (api.Fault{}) || len(l) != 4096 || len(places) != 4096 || places[4095] != 4095 {
		t.Error(len(l), len(places), f)
	}
}

func TestSplitRefuses(t *testing.T) {
	for _, x := range []struct {
		b    []byte
		want api.Fault
	}{
		{make([]byte, 4097), fault(api.ErrLong, 4096)},
		{make([]byte, 100000), fault(api.ErrLong, 4096)},
		{bytes.Repeat(raw(33), 4097), fault(api.ErrLong, 4096)},
		{bytes.Repeat(raw(33), 4096), fault(api.ErrIllegal, 0)},
		{append(make([]byte, 4095), 29), fault(api.ErrBytes, 4096)},
		{append(make([]byte, 4095), 33), fault(api.ErrIllegal, 4095)},
		{append(make([]byte, 4094), 29, 64), fault(api.ErrRange, 4094)},
		{raw(29), fault(api.ErrBytes, 1)},
		{raw(0, 0, 29), fault(api.ErrBytes, 3)},
		{raw(0, 33, 29), fault(api.ErrIllegal, 1)},
		{raw(29, 1, 29, 64, 33), fault(api.ErrRange, 2)},
		{raw(0, 28, 3, 5, 9), fault(api.ErrLong, 1)},
		{raw(0, 28, 3, 5, 8, 1), fault(api.ErrBytes, 6)},
	} {
		if l, places, f := code.Split(x.b); f != x.want || len(l) != 0 || len(places) != 0 {
			t.Errorf("% d: %v %v %v, not %v", x.b[:min(len(x.b), 9)], l, places, f, x.want)
		}
	}
}

// P1 and the rules

func TestArgumentsStay(t *testing.T) {
	args := list(1, 2, 3, 77, 78)
	i := api.Ins{Op: api.OpCall, A: 4, N: 5, Args: args[:3]}
	b, _ := code.Put(i)
	joined, _ := code.Join([]api.Ins{i, i})
	clear(b[:cap(b)])
	clear(joined[:cap(joined)])
	code.Length(i)
	if !slices.Equal(args, list(1, 2, 3, 77, 78)) {
		t.Error("changed", args)
	}
	if again, _ := code.Put(i); !bytes.Equal(again, raw(28, 4, 5, 3, 1, 2, 3)) {
		t.Error(again)
	}
}

func TestInputStays(t *testing.T) {
	whole := raw(28, 4, 5, 2, 1, 2, 28, 4, 5, 2, 1, 2, 29, 9)
	b := whole[:12]
	i, _, _ := code.Get(b, 0)
	l, places, _ := code.Split(b)
	if len(l) != 2 || !slices.Equal(places, list(0, 6)) {
		t.Fatal(l, places)
	}
	first := l[0].Args
	clear(first[:cap(first)])
	clear(places[:cap(places)])
	if !slices.Equal(l[1].Args, list(1, 2)) || !slices.Equal(i.Args, list(1, 2)) {
		t.Error("shared", l, i)
	}
	if !bytes.Equal(whole, raw(28, 4, 5, 2, 1, 2, 28, 4, 5, 2, 1, 2, 29, 9)) {
		t.Error("changed", whole)
	}
	b[4] = 60
	if !slices.Equal(i.Args, list(1, 2)) {
		t.Error("kept", i)
	}
	// What lies in the spare capacity is no part of the input.
	refuses(t, []asked{{whole[:3], 0, fault(api.ErrBytes, 3)}, {whole[:5], 0, fault(api.ErrBytes, 5)}, {whole[:6], 7, fault(api.ErrArg, 0)}, {whole[:6], 6, fault(api.ErrBytes, 6)}})
}
