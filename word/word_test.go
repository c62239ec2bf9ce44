package word_test

import (
	"math"
	"math/big"
	"slices"
	"testing"

	"twinshaft/api"
	"twinshaft/word"
)

const (
	all  = 1<<64 - 1 // -1 as a signed number
	half = 1 << 63   // the least signed number
)

// edges are the words at which one of the functions takes a turn, and some ordinary ones.
func edges() []uint64 {
	out := []uint64{0, 1, 2, 3, 7, 10, 100, 12345, 0x0123456789abcdef, 0xfedcba9876543210, 0x5555555555555555, 0xaaaaaaaaaaaaaaaa}
	for _, bit := range []int{7, 8, 15, 16, 31, 32, 33, 62, 63} {
		n := uint64(1) << bit
		out = append(out, n-1, n, n+1, -n-1, -n, -n+1)
	}
	for n := uint64(4); n < 70; n += 5 {
		out = append(out, n, -n)
	}
	return out
}

// strays are numbers that neither a size nor a function is.
func strays() []int {
	return []int{-8, -4, -2, -1, 0, 21, 22, 64, 256 + 1, 1<<32 + 1, 1<<32 + 8, math.MinInt + 1, math.MinInt, math.MaxInt}
}

func unsigned(x uint64) *big.Int { return new(big.Int).SetUint64(x) }
func signed(x uint64) *big.Int   { return big.NewInt(int64(x)) }

// modulo is x modulo 2^64, where Mod, unlike Rem, is never below 0.
func modulo(x *big.Int) uint64 {
	return new(big.Int).Mod(x, new(big.Int).Lsh(big.NewInt(1), 64)).Uint64()
}

// P1.1

func TestExtendsLowParts(t *testing.T) {
	for _, x := range edges() {
		for _, c := range []struct {
			size       int
			zext, sext uint64
		}{
			{1, uint64(uint8(x)), uint64(int64(int8(x)))},
			{2, uint64(uint16(x)), uint64(int64(int16(x)))},
			{4, uint64(uint32(x)), uint64(int64(int32(x)))},
			{8, x, x},
		} {
			if got := word.Zext(x, c.size); got != c.zext {
				t.Errorf("Zext(%#x, %d): %#x, not %#x", x, c.size, got, c.zext)
			}
			if got := word.Sext(x, c.size); got != c.sext {
				t.Errorf("Sext(%#x, %d): %#x, not %#x", x, c.size, got, c.sext)
			}
		}
	}
}

func TestExtendsExamples(t *testing.T) {
	for _, c := range []struct{ got, want uint64 }{
		{word.Sext(255, 1), all},
		{word.Sext(127, 1), 127},
		{word.Sext(128, 1), all - 127},
		{word.Zext(all, 4), 4294967295},
		{word.Zext(all, 8), all},
		{word.Sext(half, 8), half},
		{word.Sext(5, 3), 0},
	} {
		if c.got != c.want {
			t.Errorf("%#x, not %#x", c.got, c.want)
		}
	}
}

func TestExtendsNothingOfWhatIsNoSize(t *testing.T) {
	for _, size := range append(strays(), 3, 5, 6, 7, 9, 16, 32) {
		if z, s := word.Zext(all, size), word.Sext(all, size); z != 0 || s != 0 {
			t.Errorf("size %d: %#x %#x", size, z, s)
		}
	}
}

// P1.2

// truth is a bool as the functions answer it.
func truth(b bool) uint64 {
	if b {
		return 1
	}
	return 0
}

// upper is a product divided by 2^64, rounded down: big's Rsh is, below 0 too.
func upper(x, y *big.Int) uint64 {
	product := new(big.Int).Mul(x, y)
	return modulo(product.Rsh(product, 64))
}

// quotient and remainder are by the division of whole numbers; Quo and Rem round towards 0.
func quotient(x, y *big.Int) uint64 {
	if y.Sign() == 0 {
		return all
	}
	return modulo(new(big.Int).Quo(x, y))
}

func remainder(x, y *big.Int) uint64 {
	if y.Sign() == 0 {
		return modulo(x)
	}
	return modulo(new(big.Int).Rem(x, y))
}

// whole is what the chapter says of a function, by numbers without bounds.
func whole(fn int, x, y uint64) uint64 {
	sx, sy, ux, uy := signed(x), signed(y), unsigned(x), unsigned(y)
	by := uint(y % 64)
	switch fn {
	case api.FnAdd:
		return modulo(new(big.Int).Add(ux, uy))
	case api.FnSub:
		return modulo(new(big.Int).Sub(ux, uy))
	case api.FnMul:
		return modulo(new(big.Int).Mul(ux, uy))
	case api.FnMulh:
		return upper(sx, sy)
	case api.FnMulhu:
		return upper(ux, uy)
	case api.FnMulhsu:
		return upper(sx, uy)
	case api.FnDiv:
		return quotient(sx, sy)
	case api.FnDivu:
		return quotient(ux, uy)
	case api.FnRem:
		return remainder(sx, sy)
	case api.FnRemu:
		return remainder(ux, uy)
	case api.FnAnd:
		return modulo(new(big.Int).And(ux, uy))
	case api.FnOr:
		return modulo(new(big.Int).Or(ux, uy))
	case api.FnXor:
		return modulo(new(big.Int).Xor(ux, uy))
	case api.FnShl:
		return modulo(new(big.Int).Lsh(ux, by))
	case api.FnShr:
		return modulo(new(big.Int).Rsh(ux, by))
	case api.FnSar:
		return modulo(new(big.Int).Rsh(sx, by))
	case api.FnLt:
		return truth(sx.Cmp(sy) < 0)
	case api.FnLtu:
		return truth(ux.Cmp(uy) < 0)
	case api.FnEq:
		return truth(ux.Cmp(uy) == 0)
	}
	return truth(ux.Cmp(uy) != 0)
}

func TestDoIsWhatWholeNumbersSay(t *testing.T) {
	for fn := api.FnAdd; fn <= api.FnNe; fn++ {
		for _, x := range edges() {
			for _, y := range edges() {
				want := whole(fn, x, y)
				if got, e := word.Do(fn, x, y); got != want || e != api.OK {
					t.Errorf("Do(%d, %#x, %#x): %#x %v, not %#x", fn, x, y, got, e, want)
				}
			}
		}
	}
}

func TestDoExamples(t *testing.T) {
	for _, c := range []struct {
		fn         int
		x, y, want uint64
	}{
		{api.FnAdd, all, 2, 1},
		{api.FnSub, 1, 2, all},
		{api.FnMul, half, 3, half},
		{api.FnDiv, all - 6, 2, all - 2},
		{api.FnRem, all - 6, 2, all},
		{api.FnDiv, 7, all - 1, all - 2},
		{api.FnRem, 7, all - 1, 1},
		{api.FnDiv, 7, 0, all},
		{api.FnRem, 7, 0, 7},
		{api.FnRem, all - 6, 0, all - 6},
		{api.FnDiv, 0, 0, all},
		{api.FnRem, 0, 0, 0},
		{api.FnDiv, half, all, half},
		{api.FnRem, half, all, 0},
		{api.FnDivu, 7, 0, all},
		{api.FnRemu, 7, 0, 7},
		{api.FnDivu, half, all, 0},
		{api.FnRemu, half, all, half},
		{api.FnMulhu, all, all, all - 1},
		{api.FnMulh, all, all, 0},
		{api.FnMulh, half, half, 1 << 62},
		{api.FnMulh, 1, all, all},
		{api.FnMulhsu, all, all, all},
		{api.FnMulhsu, 1, all, 0},
		{api.FnMulhsu, all, 1, all},
		{api.FnAnd, 6, 3, 2},
		{api.FnOr, 6, 3, 7},
		{api.FnXor, 6, 3, 5},
		{api.FnSar, half, 63, all},
		{api.FnSar, half, 64, half},
		{api.FnShr, half, 63, 1},
		{api.FnShr, half, all, 1},
		{api.FnShl, 1, 65, 2},
		{api.FnShl, 1, 1 << 32, 1},
		{api.FnLt, all, 0, 1},
		{api.FnLt, half, half - 1, 1},
		{api.FnLtu, all, 0, 0},
		{api.FnLtu, half - 1, half, 1},
		{api.FnEq, 3, 3, 1},
		{api.FnEq, 1 << 32, 0, 0},
		{api.FnNe, 3, 3, 0},
		{api.FnNe, 1 << 32, 0, 1},
	} {
		if got, e := word.Do(c.fn, c.x, c.y); got != c.want || e != api.OK {
			t.Errorf("Do(%d, %#x, %#x): %#x %v, not %#x", c.fn, c.x, c.y, got, e, c.want)
		}
	}
}

func TestDoRefusesWhatIsNoFunction(t *testing.T) {
	for _, fn := range strays() {
		for _, y := range []uint64{0, 1, all} {
			if got, e := word.Do(fn, 1, y); got != 0 || e != api.ErrArg {
				t.Errorf("Do(%d, 1, %d): %d %v", fn, y, got, e)
			}
		}
	}
}

// P1.3

// halves is what the chapter says of a function of the low halves, by the language's numbers of 32 bits.
func halves(fn int, x, y uint64) int32 {
	sx, sy, ux, uy, by := int32(x), int32(y), uint32(x), uint32(y), uint(y%32)
	switch fn {
	case api.FnAdd:
		return sx + sy
	case api.FnSub:
		return sx - sy
	case api.FnMul:
		return sx * sy
	case api.FnShl:
		return sx << by
	case api.FnShr:
		return int32(ux >> by)
	case api.FnSar:
		return sx >> by
	}
	byNothing := sy == 0
	switch {
	case fn == api.FnDiv && !byNothing:
		return sx / sy
	case fn == api.FnDivu && !byNothing:
		return int32(ux / uy)
	case fn == api.FnRem && !byNothing:
		return sx % sy
	case fn == api.FnRemu && !byNothing:
		return int32(ux % uy)
	case fn == api.FnDiv || fn == api.FnDivu:
		return -1
	}
	return sx
}

// halved are the functions that Half has.
func halved() []int {
	return []int{api.FnAdd, api.FnSub, api.FnMul, api.FnDiv, api.FnDivu, api.FnRem, api.FnRemu, api.FnShl, api.FnShr, api.FnSar}
}

func TestHalfIsWhatHalvesSay(t *testing.T) {
	for _, fn := range halved() {
		for _, x := range edges() {
			for _, y := range edges() {
				want := uint64(int64(halves(fn, x, y)))
				if got, e := word.Half(fn, x, y); got != want || e != api.OK {
					t.Errorf("Half(%d, %#x, %#x): %#x %v, not %#x", fn, x, y, got, e, want)
				}
			}
		}
	}
}

func TestHalfExamples(t *testing.T) {
	const least = all - 1<<31 + 1 // -2^31
	for _, c := range []struct {
		fn         int
		x, y, want uint64
	}{
		{api.FnAdd, 2147483647, 1, all - 2147483647},
		{api.FnAdd, 1<<32 - 1, 1, 0},
		{api.FnSub, 0, 1, all},
		{api.FnMul, 1 << 16, 1 << 16, 0},
		{api.FnDiv, 1 << 31, 1<<32 - 1, least},
		{api.FnRem, 1 << 31, 1<<32 - 1, 0},
		{api.FnDiv, 1<<32 - 7, 2, all - 2},
		{api.FnRem, 1<<32 - 7, 2, all},
		{api.FnDivu, 1 << 31, 1<<32 - 1, 0},
		{api.FnRemu, 1 << 31, 1<<32 - 1, least},
		{api.FnDiv, 7, 1 << 32, all},
		{api.FnDivu, 7, 1 << 32, all},
		{api.FnRem, 1<<32 + 7, 1 << 32, 7},
		{api.FnRemu, 1 << 31, 0, least},
		{api.FnShl, 1, 31, least},
		{api.FnShl, 1, 32, 1},
		{api.FnShr, 1 << 31, 31, 1},
		{api.FnShr, all, 32, all},
		{api.FnShr, 1 << 32, 1, 0},
		{api.FnSar, 1 << 31, 33, all - 1<<30 + 1},
		{api.FnSar, 1 << 32, 1, 0},
	} {
		if got, e := word.Half(c.fn, c.x, c.y); got != c.want || e != api.OK {
			t.Errorf("Half(%d, %#x, %#x): %#x %v, not %#x", c.fn, c.x, c.y, got, e, c.want)
		}
	}
}

func TestHalfRefusesTheOthers(t *testing.T) {
	refused := strays()
	for fn := api.FnAdd; fn <= api.FnNe; fn++ {
		if !slices.Contains(halved(), fn) {
			refused = append(refused, fn)
		}
	}
	for _, fn := range refused {
		if got, e := word.Half(fn, 1, 1); got != 0 || e != api.ErrArg {
			t.Errorf("Half(%d, 1, 1): %d %v", fn, got, e)
		}
	}
}

// P1.4

func TestPutExamples(t *testing.T) {
	for _, c := range []struct {
		x    uint64
		size int
		want []byte
	}{
		{258, 2, []byte{2, 1}},
		{258, 1, []byte{2}},
		{0, 8, []byte{0, 0, 0, 0, 0, 0, 0, 0}},
		{0xfedcba9876543210, 4, []byte{0x10, 0x32, 0x54, 0x76}},
		{0xfedcba9876543210, 8, []byte{0x10, 0x32, 0x54, 0x76, 0x98, 0xba, 0xdc, 0xfe}},
	} {
		if got, e := word.Put(c.x, c.size); !slices.Equal(got, c.want) || e != api.OK {
			t.Errorf("Put(%#x, %d): %v %v, not %v", c.x, c.size, got, e, c.want)
		}
	}
}

func TestPutRefusesWhatIsNoSize(t *testing.T) {
	for _, size := range append(strays(), 3, 5, 6, 7, 9, 16) {
		if got, e := word.Put(1, size); got != nil || e != api.ErrArg {
			t.Errorf("Put(1, %d): %v %v", size, got, e)
		}
	}
}

func TestPutIsNewMemory(t *testing.T) {
	first, _ := word.Put(258, 2)
	first = first[:cap(first)]
	for i := range first {
		first[i] = 77
	}
	if second, _ := word.Put(258, 2); !slices.Equal(second, []byte{2, 1}) {
		t.Error(second)
	}
}

func TestGetExamples(t *testing.T) {
	for _, c := range []struct {
		b    []byte
		want uint64
	}{
		{[]byte{2, 1}, 258},
		{[]byte{255}, 255},
		{[]byte{0, 0, 0, 128}, 1 << 31},
		{[]byte{0x10, 0x32, 0x54, 0x76, 0x98, 0xba, 0xdc, 0xfe}, 0xfedcba9876543210},
	} {
		if got, e := word.Get(c.b); got != c.want || e != api.OK {
			t.Errorf("Get(%v): %#x %v, not %#x", c.b, got, e, c.want)
		}
	}
}

func TestGetRefusesWhatIsNoSize(t *testing.T) {
	for n := range 40 {
		want := api.ErrArg
		switch {
		case n > 8:
			want = api.ErrLong
		case n == 1 || n == 2 || n == 4 || n == 8:
			continue
		}
		if got, e := word.Get(slices.Repeat([]byte{255}, n)); got != 0 || e != want {
			t.Errorf("Get of %d bytes: %d %v, not %v", n, got, e, want)
		}
	}
	if got, e := word.Get(nil); got != 0 || e != api.ErrArg {
		t.Error(got, e)
	}
}

func TestGetLeavesItsArgument(t *testing.T) {
	whole := []byte{1, 2, 3, 4, 5, 6, 7, 8}
	if got, e := word.Get(whole[2:4]); got != 0x0403 || e != api.OK {
		t.Errorf("%#x %v", got, e)
	}
	if !slices.Equal(whole, []byte{1, 2, 3, 4, 5, 6, 7, 8}) {
		t.Error(whole)
	}
}

// P1.5

func TestWhatIsPutIsReadBack(t *testing.T) {
	for _, x := range edges() {
		for _, size := range []int{1, 2, 4, 8} {
			b, _ := word.Put(x, size)
			back, e := word.Get(b)
			if back != word.Zext(x, size) || e != api.OK {
				t.Errorf("%#x of size %d: %#x %v", x, size, back, e)
			}
			if again, e := word.Put(back, size); !slices.Equal(again, b) || e != api.OK {
				t.Errorf("%v: %v %v", b, again, e)
			}
		}
	}
}

// magnitude is how far a signed number is from 0; of -2^63 too.
func magnitude(x uint64) uint64 {
	if int64(x) < 0 {
		return -x
	}
	return x
}

func do(fn int, x, y uint64) uint64 {
	n, _ := word.Do(fn, x, y)
	return n
}

func TestQuotientAndRemainderMakeTheFirst(t *testing.T) {
	for _, x := range edges() {
		for _, y := range edges() {
			rem, remu := do(api.FnRem, x, y), do(api.FnRemu, x, y)
			if got := do(api.FnDiv, x, y)*y + rem; got != x {
				t.Errorf("%#x by %#x: %#x", x, y, got)
			}
			if got := do(api.FnDivu, x, y)*y + remu; got != x {
				t.Errorf("%#x by %#x unsigned: %#x", x, y, got)
			}
			if y != 0 && (magnitude(rem) >= magnitude(y) || remu >= y) {
				t.Errorf("%#x by %#x: %#x and %#x are left", x, y, rem, remu)
			}
			if rem != 0 && (int64(rem) < 0) != (int64(x) < 0) {
				t.Errorf("%#x by %#x: %#x has the other sign", x, y, rem)
			}
		}
	}
}

func TestProductsAreCommutative(t *testing.T) {
	for _, fn := range []int{api.FnMul, api.FnMulh, api.FnMulhu} {
		for _, x := range edges() {
			for _, y := range edges() {
				if do(fn, x, y) != do(fn, y, x) {
					t.Errorf("%d of %#x and %#x", fn, x, y)
				}
			}
		}
	}
	for _, x := range edges() {
		for _, y := range edges() {
			a, _ := word.Half(api.FnMul, x, y)
			if b, _ := word.Half(api.FnMul, y, x); a != b {
				t.Errorf("halves of %#x and %#x", x, y)
			}
		}
	}
}
