package rvcode

// The numbers that an instruction has beside its operation.
const (
	rd = iota
	rs1
	rs2
	imm
)

// numbers are an instruction's; what it lacks is 0.
type numbers [imm + 1]int

// field is some bits of one of the numbers, and as many bits of a word, where they stand.
type field struct {
	of   int
	put  func(n int) uint32
	take func(w uint32) int
}

// part is size bits of a number, from its bit from on, that stand from a word's bit at on.
func part(of, from, size, at int) field {
	mask := uint32(1)<<size - 1
	return field{
		of:   of,
		put:  func(n int) uint32 { return uint32(n>>from) & mask << at },
		take: func(w uint32) int { return int(w>>at&mask) << from },
	}
}

// top is the upper bits of a signed immediate, from its bit from on: they stand at a word's end, so that its highest bit is the sign, which a signed shift spreads.
func top(from, at int) field {
	return field{
		of:   imm,
		put:  func(n int) uint32 { return uint32(n>>from) << at },
		take: func(w uint32) int { return int(int32(w)>>at) << from },
	}
}

// fields tells where a form has its numbers.
func fields(form byte) []field {
	to, one, two := part(rd, 0, 5, 7), part(rs1, 0, 5, 15), part(rs2, 0, 5, 20)
	switch form {
	case 'R':
		return []field{to, one, two}
	case 'I':
		return []field{to, one, top(0, 20)}
	case 'X':
		return []field{to, one, part(imm, 0, 6, 20)}
	case 'Y':
		return []field{to, one, part(imm, 0, 5, 20)}
	case 'S':
		return []field{part(imm, 0, 5, 7), one, two, top(5, 25)}
	case 'B':
		return []field{part(imm, 11, 1, 7), part(imm, 1, 4, 8), one, two, part(imm, 5, 6, 25), top(12, 31)}
	case 'U':
		return []field{to, top(0, 12)}
	case 'J':
		return []field{to, part(imm, 12, 8, 12), part(imm, 11, 1, 20), part(imm, 1, 10, 21), top(20, 31)}
	}
	return nil
}

// join tells the bits of a word in which numbers stand.
func join(parts []field, n numbers) uint32 {
	var w uint32
	for _, f := range parts {
		w |= f.put(n[f.of])
	}
	return w
}

// split tells the numbers that stand in a word.
func split(parts []field, w uint32) numbers {
	var n numbers
	for _, f := range parts {
		n[f.of] |= f.take(w)
	}
	return n
}
