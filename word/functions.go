package word

import (
	"math/bits"

	"twinshaft/api"
)

// function is what is made of two words.
type function func(x, y uint64) uint64

// functions has every function at its number; at 0 there is none.
func functions() [api.FnNe + 1]function {
	return [...]function{
		api.FnAdd:    func(x, y uint64) uint64 { return x + y },
		api.FnSub:    func(x, y uint64) uint64 { return x - y },
		api.FnMul:    func(x, y uint64) uint64 { return x * y },
		api.FnMulh:   func(x, y uint64) uint64 { return upper(x, y) - ifBelow0(x, y) - ifBelow0(y, x) },
		api.FnMulhu:  upper,
		api.FnMulhsu: func(x, y uint64) uint64 { return upper(x, y) - ifBelow0(x, y) },
		api.FnDiv:    quotient,
		api.FnDivu:   quotientUnsigned,
		api.FnRem:    remainder,
		api.FnRemu:   remainderUnsigned,
		api.FnAnd:    func(x, y uint64) uint64 { return x & y },
		api.FnOr:     func(x, y uint64) uint64 { return x | y },
		api.FnXor:    func(x, y uint64) uint64 { return x ^ y },
		api.FnShl:    func(x, y uint64) uint64 { return x << (y % 64) },
		api.FnShr:    func(x, y uint64) uint64 { return x >> (y % 64) },
		api.FnSar:    func(x, y uint64) uint64 { return uint64(int64(x) >> (y % 64)) },
		api.FnLt:     func(x, y uint64) uint64 { return truth(int64(x) < int64(y)) },
		api.FnLtu:    func(x, y uint64) uint64 { return truth(x < y) },
		api.FnEq:     func(x, y uint64) uint64 { return truth(x == y) },
		api.FnNe:     func(x, y uint64) uint64 { return truth(x != y) },
	}
}

// upper is the upper word of the unsigned product.
func upper(x, y uint64) uint64 {
	high, _ := bits.Mul64(x, y)
	return high
}

// ifBelow0 is what the upper word of an unsigned product has too much where x is signed: a signed x below 0 is 2^64 less than the unsigned one, so 2^64 times y less is the product.
func ifBelow0(x, y uint64) uint64 {
	if int64(x) < 0 {
		return y
	}
	return 0
}

// The language itself gives -2^63 and 0 for -2^63 by -1; a division by 0 alone would panic.

func quotient(x, y uint64) uint64 {
	if y == 0 {
		return 1<<64 - 1
	}
	return uint64(int64(x) / int64(y))
}

func quotientUnsigned(x, y uint64) uint64 {
	if y == 0 {
		return 1<<64 - 1
	}
	return x / y
}

func remainder(x, y uint64) uint64 {
	if y == 0 {
		return x
	}
	return uint64(int64(x) % int64(y))
}

func remainderUnsigned(x, y uint64) uint64 {
	if y == 0 {
		return x
	}
	return x % y
}

func truth(b bool) uint64 {
	if b {
		return 1
	}
	return 0
}
