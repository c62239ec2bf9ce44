package mem_test

import (
	"bytes"
	"math"
	"math/big"
	"slices"
	"testing"

	"twinshaft/api"
	"twinshaft/mem"
	"twinshaft/word"
)

func sizes() []int { return []int{1, 2, 4, 8} }

// strays are numbers of bytes that no number has.
func strays() []int {
	return []int{math.MinInt, math.MinInt + 1, -1 << 32, -8, -4, -2, -1, 0, 3, 5, 6, 7, 9, 16, 32, 256 + 1, 1<<32 + 1, 1<<32 + 8, math.MaxInt}
}

// places are all those about a memory of a size, and those from which a number of bytes goes beyond 64 bits.
func places(size int) []uint64 {
	var out []uint64
	for at := range uint64(size + 20) {
		out = append(out, at, -at-1)
	}
	return append(out, 1<<16, 1<<16+16, 1<<31, 1<<32, 1<<32+16, 1<<62, 1<<63-1, 1<<63, 1<<63+16)
}

// fits is what the chapter says, with numbers without bounds.
func fits(size int, at uint64, n int) bool {
	begin := new(big.Int).SetUint64(at)
	end := new(big.Int).Add(begin, big.NewInt(int64(n)))
	return begin.Cmp(big.NewInt(16)) >= 0 && end.Cmp(big.NewInt(int64(size))) <= 0
}

func fresh(t *testing.T, size int) *mem.Mem {
	t.Helper()
	m, e := mem.New(size)
	if m == nil || e != api.OK {
		t.Fatalf("New(%d): %v %v", size, m, e)
	}
	return m
}

// pattern is bytes that differ from their neighbours, none of which is 0.
func pattern(n int) []byte {
	var out []byte
	for i := range n {
		out = append(out, byte(i*37%255+1))
	}
	return out
}

// filled is a memory, with its bytes from 16 on.
func filled(t *testing.T, size int) (*mem.Mem, []byte) {
	t.Helper()
	m, b := fresh(t, size), pattern(size-16)
	if e := m.Lay(16, b); e != api.OK {
		t.Fatal(e)
	}
	return m, b
}

// holds checks that a memory has these bytes from 16 on, to its end.
func holds(t *testing.T, m *mem.Mem, want []byte) {
	t.Helper()
	if got, e := m.Bytes(16, m.Size()-16); !bytes.Equal(got, want) || e != api.OK {
		t.Fatalf("%v %v, not %v", got, e, want)
	}
}

// invalid are memories that neither New nor Copy returned.
func invalid(t *testing.T) []*mem.Mem {
	t.Helper()
	shared := *fresh(t, 32)
	return []*mem.Mem{nil, {}, &shared}
}

// P2.1

func TestNewMakesZeros(t *testing.T) {
	for _, size := range []int{16, 17, 23, 24, 32, 1000, 4096, 65535, 65536} {
		m := fresh(t, size)
		if m.Size() != size {
			t.Errorf("New(%d): the size is %d", size, m.Size())
		}
		holds(t, m, make([]byte, size-16))
	}
}

func TestNewRefuses(t *testing.T) {
	for _, size := range []int{math.MinInt, -1<<32 + 16, -65536, -16, -1, 0, 1, 8, 15, 65537, 1 << 20, 1<<32 + 16, math.MaxInt} {
		if m, e := mem.New(size); m != nil || e != api.ErrArg {
			t.Errorf("New(%d): %v %v", size, m, e)
		}
	}
}

func TestMemoriesAreApart(t *testing.T) {
	a, b := fresh(t, 32), fresh(t, 32)
	a.Store(16, 8, math.MaxUint64)
	holds(t, b, make([]byte, 16))
}

func TestCopyIsIndependent(t *testing.T) {
	m, before := filled(t, 40)
	c := m.Copy()
	if c == nil || c == m || c.Size() != 40 {
		t.Fatal("copy", c)
	}
	holds(t, c, before)
	m.Store(16, 1, 200)
	holds(t, c, before)
	after, _ := m.Bytes(16, 24)
	c.Lay(30, []byte{1, 2, 3})
	holds(t, m, after)
	again := c.Copy()
	c.Store(32, 8, 0)
	if v, e := again.Load(30, 2); v != 0x0201 || e != api.OK {
		t.Error("copy of a copy", v, e)
	}
	if !fresh(t, 16).Copy().Same(fresh(t, 16)) {
		t.Error("copy of the least")
	}
}

func TestSame(t *testing.T) {
	for size := 16; size < 50; size++ {
		for other := 16; other < 50; other++ {
			if fresh(t, size).Same(fresh(t, other)) != (size == other) {
				t.Error("sizes", size, other)
			}
		}
	}
	m, _ := filled(t, 40)
	if !m.Same(m) || !m.Same(m.Copy()) || !m.Copy().Same(m) {
		t.Error("a copy is another")
	}
	for at := uint64(16); at < 40; at++ {
		c := m.Copy()
		v, _ := c.Load(at, 1)
		c.Store(at, 1, v^128)
		if m.Same(c) || c.Same(m) {
			t.Error("not seen: the byte at", at)
		}
		c.Store(at, 1, v)
		if !m.Same(c) || !c.Same(m) {
			t.Error("seen: the byte at", at)
		}
	}
}

func TestInvalidMemories(t *testing.T) {
	for i, m := range invalid(t) {
		if m.Size() != 0 || m.Copy() != nil || m.Same(m) || m.Same(fresh(t, 32)) || fresh(t, 32).Same(m) || m.Same(nil) {
			t.Error(i, "is one")
		}
		for _, at := range []uint64{0, 16, 20, math.MaxUint64} {
			for _, n := range append(strays(), sizes()...) {
				if v, e := m.Load(at, n); v != 0 || e != api.ErrNil {
					t.Error(i, "Load", at, n, v, e)
				}
				if e := m.Store(at, n, 5); e != api.ErrNil {
					t.Error(i, "Store", at, n, e)
				}
				if b, e := m.Bytes(at, n); len(b) != 0 || e != api.ErrNil {
					t.Error(i, "Bytes", at, n, b, e)
				}
			}
			if e := m.Lay(at, nil); e != api.ErrNil {
				t.Error(i, "Lay", at, e)
			}
			if e := m.Lay(at, []byte{1}); e != api.ErrNil {
				t.Error(i, "Lay", at, e)
			}
		}
	}
	m, before := filled(t, 32)
	shared := *m
	shared.Store(16, 8, 0)
	shared.Lay(16, []byte{0, 0})
	holds(t, m, before)
}

// P2.2

func TestNumbersOfNoSizeAreRefusedFirst(t *testing.T) {
	m, before := filled(t, 32)
	for _, n := range strays() {
		for _, at := range []uint64{0, 15, 16, 24, 31, 32, 33, math.MaxUint64} {
			if v, e := m.Load(at, n); v != 0 || e != api.ErrArg {
				t.Error("Load", at, n, v, e)
			}
			if e := m.Store(at, n, 0); e != api.ErrArg {
				t.Error("Store", at, n, e)
			}
		}
	}
	holds(t, m, before)
}

func TestLoadAtEachPlace(t *testing.T) {
	for _, size := range []int{16, 17, 24, 33, 65536} {
		m, b := filled(t, size)
		for _, at := range places(min(size, 60)) {
			loadsOf(t, m, b, at)
			loadsOf(t, m, b, uint64(size)-at%60)
		}
	}
}

// loadsOf checks the numbers at a place of a memory that has these bytes from 16 on.
func loadsOf(t *testing.T, m *mem.Mem, b []byte, at uint64) {
	t.Helper()
	for _, n := range sizes() {
		want, e := uint64(0), api.ErrAccess
		if fits(m.Size(), at, n) {
			e = api.OK
			for i := range n {
				want += uint64(b[int(at)-16+i]) << (8 * i)
			}
		}
		if got, f := m.Load(at, n); got != want || f != e {
			t.Errorf("size %d: Load(%d, %d): %#x %v, not %#x %v", m.Size(), at, n, got, f, want, e)
		}
	}
}

func TestStoreAtEachPlace(t *testing.T) {
	const v = 0x8899aabbccddeeff
	for _, size := range []int{16, 17, 24, 33, 60} {
		for _, at := range places(size) {
			for _, n := range sizes() {
				m, want := filled(t, size)
				e := api.ErrAccess
				if fits(size, at, n) {
					e = api.OK
					for i := range n {
						want[int(at)-16+i] = 0xff - byte(0x11*i)
					}
				}
				if got := m.Store(at, n, v); got != e {
					t.Errorf("size %d: Store(%d, %d): %v, not %v", size, at, n, got, e)
				}
				holds(t, m, want)
			}
		}
	}
}

func TestStoreAtTheEndOfTheGreatest(t *testing.T) {
	m := fresh(t, 65536)
	for _, n := range sizes() {
		last := uint64(65536 - n)
		if e := m.Store(last+1, n, 1); e != api.ErrAccess {
			t.Error(n, e)
		}
		if e := m.Store(last, n, math.MaxUint64); e != api.OK {
			t.Error(n, e)
		}
		if v, e := m.Load(last, n); v != word.Zext(math.MaxUint64, n) || e != api.OK {
			t.Error(n, v, e)
		}
	}
}

// P2.3

func TestBytesAtEachPlace(t *testing.T) {
	for _, size := range []int{16, 17, 24, 33} {
		m, b := filled(t, size)
		for _, at := range places(size) {
			for _, n := range []int{0, 1, 2, 3, 7, 8, 16, 17, 18, 33, 34, 65536, math.MaxInt32, math.MaxInt - 15, math.MaxInt} {
				var want []byte
				e := api.ErrAccess
				if fits(size, at, n) {
					want, e = b[at-16:int(at)-16+n], api.OK
				}
				if got, f := m.Bytes(at, n); !bytes.Equal(got, want) || f != e {
					t.Errorf("size %d: Bytes(%d, %d): %v %v, not %v %v", size, at, n, got, f, want, e)
				}
			}
		}
	}
}

func TestBytesBelowNoneAreRefusedFirst(t *testing.T) {
	m := fresh(t, 32)
	for _, n := range []int{-1, -2, -16, -1<<32 + 1, math.MinInt, math.MinInt + 16} {
		for _, at := range []uint64{0, 15, 16, 32, 33, math.MaxUint64} {
			if b, e := m.Bytes(at, n); len(b) != 0 || e != api.ErrArg {
				t.Error(at, n, b, e)
			}
		}
	}
}

func TestBytesAreNewMemory(t *testing.T) {
	m, before := filled(t, 48)
	for n := range 33 {
		b, _ := m.Bytes(16, n)
		b = b[:cap(b)]
		for i := range b {
			b[i] = 0
		}
		holds(t, m, before)
		if again, _ := m.Bytes(16, n); !bytes.Equal(again, before[:n]) {
			t.Error(n, again)
		}
	}
}

func TestBytesStayAsTheyWere(t *testing.T) {
	m, before := filled(t, 48)
	b, _ := m.Bytes(20, 8)
	m.Store(20, 8, 0)
	if !bytes.Equal(b, before[4:12]) {
		t.Error(b)
	}
}

func TestLayAtEachPlace(t *testing.T) {
	for _, size := range []int{16, 17, 24, 33} {
		for _, at := range places(size) {
			for n := range 20 {
				m, want := filled(t, size)
				b := slices.Repeat([]byte{222}, n)
				e := api.ErrAccess
				if fits(size, at, n) {
					copy(want[at-16:], b)
					e = api.OK
				}
				if got := m.Lay(at, b); got != e {
					t.Errorf("size %d: Lay(%d, %d bytes): %v, not %v", size, at, n, got, e)
				}
				holds(t, m, want)
			}
		}
	}
}

func TestLayTheWholeOfTheGreatest(t *testing.T) {
	m, b := fresh(t, 65536), pattern(65521)
	if e := m.Lay(16, b); e != api.ErrAccess {
		t.Error(e)
	}
	holds(t, m, make([]byte, 65520))
	if e := m.Lay(16, b[:65520]); e != api.OK {
		t.Error(e)
	}
	holds(t, m, b[:65520])
}

func TestLayLeavesAndForgetsItsArgument(t *testing.T) {
	m, whole := fresh(t, 32), []byte{1, 2, 3, 4, 5, 6}
	if e := m.Lay(20, whole[1:3]); e != api.OK {
		t.Fatal(e)
	}
	m.Store(20, 8, math.MaxUint64)
	if !slices.Equal(whole, []byte{1, 2, 3, 4, 5, 6}) {
		t.Error(whole)
	}
	m.Store(20, 8, 0)
	m.Lay(20, whole[1:3])
	whole[1] = 99
	if v, _ := m.Load(20, 8); v != 0x0302 {
		t.Errorf("%#x", v)
	}
}

// P2.4

func TestExamples(t *testing.T) {
	m := fresh(t, 32)
	if e := m.Store(16, 4, 0x01020304); e != api.OK {
		t.Fatal(e)
	}
	for _, c := range []struct {
		at   uint64
		n    int
		want uint64
		e    api.Errno
	}{
		{16, 1, 4, api.OK}, {17, 2, 0x0203, api.OK}, {16, 8, 0x01020304, api.OK},
		{15, 1, 0, api.ErrAccess}, {25, 8, 0, api.ErrAccess}, {24, 8, 0, api.OK}, {math.MaxUint64, 8, 0, api.ErrAccess}, {16, 3, 0, api.ErrArg},
	} {
		if got, e := m.Load(c.at, c.n); got != c.want || e != c.e {
			t.Error(c, got, e)
		}
	}
	if a, b, c := m.Store(30, 4, 0), m.Lay(30, []byte{7, 8}), m.Lay(31, []byte{7, 8}); a != api.ErrAccess || b != api.OK || c != api.ErrAccess {
		t.Error(a, b, c)
	}
	if v, e := m.Load(30, 2); v != 0x0807 || e != api.OK {
		t.Error(v, e)
	}
}

// steps calls f with numbers that look mixed, the same ones in each run.
func steps(n int, f func(x uint64)) {
	x := uint64(1)
	for range n {
		x = x*6364136223846793005 + 1442695040888963407
		f(x ^ x>>29)
	}
}

func TestWhatIsStoredIsLoadedUntilStoredOver(t *testing.T) {
	const size = 48
	m, want := fresh(t, size), make([]byte, size)
	steps(20000, func(x uint64) {
		at, n := x%64, sizes()[x>>8%4]
		b, _ := word.Put(x>>3, n)
		e := api.ErrAccess
		if fits(size, at, n) {
			e = api.OK
			copy(want[at:], b)
		}
		got := api.OK
		if x>>20%2 == 0 {
			got = m.Store(at, n, x>>3)
		} else {
			got = m.Lay(at, b)
		}
		if got != e {
			t.Fatal(at, n, got, e)
		}
		holds(t, m, want[16:])
		if v, f := m.Load(at, n); f != e || e == api.OK && v != word.Zext(x>>3, n) {
			t.Fatal(at, n, v, f)
		}
	})
}

func TestTheFirstSixteenBelongToNobody(t *testing.T) {
	m, zeros := fresh(t, 32), fresh(t, 32)
	for at := range uint64(16) {
		for _, n := range sizes() {
			if e := m.Store(at, n, math.MaxUint64); e != api.ErrAccess {
				t.Error(at, n, e)
			}
			if v, e := m.Load(at, n); v != 0 || e != api.ErrAccess {
				t.Error(at, n, v, e)
			}
		}
		for n := range 17 {
			if e := m.Lay(at, slices.Repeat([]byte{255}, n)); e != api.ErrAccess {
				t.Error(at, n, e)
			}
			if b, e := m.Bytes(at, n); len(b) != 0 || e != api.ErrAccess {
				t.Error(at, n, b, e)
			}
		}
	}
	if !m.Same(zeros) {
		t.Error("what is refused changes something")
	}
	m.Lay(16, pattern(16))
	m.Lay(16, make([]byte, 16))
	if !m.Same(zeros) {
		t.Error("the first sixteen are changed from above")
	}
}
