// Package word is layer 1: numbers of 64 bits, and what is made of two of them: see shared/doc/01-word.md.
package word

import "twinshaft/api"

// halfSize is the size of the numbers that Half is about.
const halfSize = 4

// isSize reports whether a number of bytes is a size.
func isSize(n int) bool {
	return n == 1 || n == 2 || n == 4 || n == 8
}

// Zext tells the low part of a word.
func Zext(x uint64, size int) uint64 {
	if !isSize(size) {
		return 0
	}
	above := 64 - 8*size
	return x << above >> above
}

// Sext tells the word that is the low part of a word, signed.
func Sext(x uint64, size int) uint64 {
	if !isSize(size) {
		return 0
	}
	above := 64 - 8*size
	return uint64(int64(x<<above) >> above)
}

// Do tells what a function makes of two words.
func Do(fn int, x, y uint64) (uint64, api.Errno) {
	if fn < api.FnAdd || fn > api.FnNe {
		return 0, api.ErrArg
	}
	return functions()[fn](x, y), api.OK
}

// Half tells what a function makes of two words' low halves.
func Half(fn int, x, y uint64) (uint64, api.Errno) {
	switch fn {
	case api.FnAdd, api.FnSub, api.FnMul, api.FnDivu, api.FnRemu:
		x, y = Zext(x, halfSize), Zext(y, halfSize)
	case api.FnDiv, api.FnRem:
		x, y = Sext(x, halfSize), Sext(y, halfSize)
	case api.FnShl, api.FnShr:
		x, y = Zext(x, halfSize), y%32
	case api.FnSar:
		x, y = Sext(x, halfSize), y%32
	default:
		return 0, api.ErrArg
	}
	// Of halves widened so, the 64-bit function's low part is the half's answer: a quotient by 0 is all ones in either width.
	return Sext(functions()[fn](x, y), halfSize), api.OK
}

// Put tells a word's bytes.
func Put(x uint64, size int) ([]byte, api.Errno) {
	if !isSize(size) {
		return nil, api.ErrArg
	}
	var out []byte
	for i := range size {
		out = append(out, byte(x>>(8*i)))
	}
	return out, api.OK
}

// Get tells the word of bytes.
func Get(b []byte) (uint64, api.Errno) {
	switch {
	case len(b) > 8:
		return 0, api.ErrLong
	case !isSize(len(b)):
		return 0, api.ErrArg
	}
	var x uint64
	for i := range len(b) {
		x |= uint64(b[i]) << (8 * i)
	}
	return x, api.OK
}
