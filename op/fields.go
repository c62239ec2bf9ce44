package op

import (
	"iter"
	"math"

	"twinshaft/api"
)

// fields are the fields that an instruction's shape has, each with its letter; Args are as many fields as there are registers in them.
func fields(i api.Ins) iter.Seq2[rune, int] {
	return func(yield func(rune, int) bool) {
		registers := []int{i.A, i.B, i.C}
		for _, letter := range Shape(i.Op) {
			held := []int{i.N}
			switch letter {
			case 'w', 'r':
				held, registers = registers[:1], registers[1:]
			case 'l':
				held = i.Args
			}
			for _, n := range held {
				if !yield(letter, n) {
					return
				}
			}
		}
	}
}

// rest is what an instruction has beside the fields of its shape.
func rest(i api.Ins) api.Ins {
	registers := []*int{&i.A, &i.B, &i.C}
	for _, letter := range Shape(i.Op) {
		switch letter {
		case 'w', 'r':
			*registers[0] = 0
			registers = registers[1:]
		case 'l':
			i.Args = nil
		default:
			i.N = 0
		}
	}
	return i
}

// fits tells whether the fields of an instruction's shape are within the bounds of their letters.
func fits(i api.Ins, within func(letter rune) (int, int)) bool {
	for letter, n := range fields(i) {
		least, greatest := within(letter)
		if n < least || n > greatest {
			return false
		}
		// Of the numbers from the least to the greatest size, the sizes are the powers of 2.
		if letter == 'z' && n&(n-1) != 0 {
			return false
		}
	}
	return true
}

// bounds tells, letter by letter, what is the least and the greatest number of a field in a function with that many registers and bytes of area.
func bounds(regs, area int) func(letter rune) (int, int) {
	return func(letter rune) (int, int) {
		switch letter {
		case 'w', 'r', 'l':
			return 0, regs - 1
		case 'k':
			return api.KindS8, api.KindU32
		case 'm':
			return api.KindS8, api.KindAll
		case 'z':
			return 1, 8
		case 'f':
			return 0, area
		case 'd':
			return 0, api.MaxData
		case 't':
			return 0, api.MaxCode - 1
		case 'c':
			return 0, api.MaxFuncs - 1
		}
		return math.MinInt, math.MaxInt
	}
}
