package rvcode

import "twinshaft/api"

// row is an operation: its name, the letter of its form, and its numbers a, b and c, where one that it lacks is 0.
type row struct {
	name    string
	form    byte
	a, b, c byte
}

// rows has each operation's row at its number; the one at 0 has no form.
func rows() []row {
	all := []row{
		api.RvLui:   {"lui", 'U', 55, 0, 0},
		api.RvAuipc: {"auipc", 'U', 23, 0, 0},
		api.RvJal:   {"jal", 'J', 111, 0, 0},
		api.RvJalr:  {"jalr", 'I', 103, 0, 0},
		api.RvBeq:   {"beq", 'B', 99, 0, 0},
		api.RvBne:   {"bne", 'B', 99, 1, 0},
		api.RvBlt:   {"blt", 'B', 99, 4, 0},
		api.RvBge:   {"bge", 'B', 99, 5, 0},
		api.RvBltu:  {"bltu", 'B', 99, 6, 0},
		api.RvBgeu:  {"bgeu", 'B', 99, 7, 0},
		api.RvLb:    {"lb", 'I', 3, 0, 0},
		api.RvLh:    {"lh", 'I', 3, 1, 0},
		api.RvLw:    {"lw", 'I', 3, 2, 0},
		api.RvLd:    {"ld", 'I', 3, 3, 0},
		api.RvLbu:   {"lbu", 'I', 3, 4, 0},
		api.RvLhu:   {"lhu", 'I', 3, 5, 0},
		api.RvLwu:   {"lwu", 'I', 3, 6, 0},
		api.RvSb:    {"sb", 'S', 35, 0, 0},
		api.RvSh:    {"sh", 'S', 35, 1, 0},
		api.RvSw:    {"sw", 'S', 35, 2, 0},
		api.RvSd:    {"sd", 'S', 35, 3, 0},
		api.RvAddi:  {"addi", 'I', 19, 0, 0},
		api.RvSlti:  {"slti", 'I', 19, 2, 0},
		api.RvSltiu: {"sltiu", 'I', 19, 3, 0},
		api.RvXori:  {"xori", 'I', 19, 4, 0},
		api.RvOri:   {"ori", 'I', 19, 6, 0},
		api.RvAndi:  {"andi", 'I', 19, 7, 0},
		api.RvSlli:  {"slli", 'X', 19, 1, 0},
		api.RvSrli:  {"srli", 'X', 19, 5, 0},
		api.RvSrai:  {"srai", 'X', 19, 5, 16},
		api.RvAddiw: {"addiw", 'I', 27, 0, 0},
		api.RvSlliw: {"slliw", 'Y', 27, 1, 0},
		api.RvSrliw: {"srliw", 'Y', 27, 5, 0},
		api.RvSraiw: {"sraiw", 'Y', 27, 5, 32},
		api.RvAdd:   {"add", 'R', 51, 0, 0},
		api.RvSub:   {"sub", 'R', 51, 0, 32},
		api.RvSll:   {"sll", 'R', 51, 1, 0},
		api.RvSlt:   {"slt", 'R', 51, 2, 0},
		api.RvSltu:  {"sltu", 'R', 51, 3, 0},
		api.RvXor:   {"xor", 'R', 51, 4, 0},
		api.RvSrl:   {"srl", 'R', 51, 5, 0},
		api.RvSra:   {"sra", 'R', 51, 5, 32},
		api.RvOr:    {"or", 'R', 51, 6, 0},
		api.RvAnd:   {"and", 'R', 51, 7, 0},
		api.RvAddw:  {"addw", 'R', 59, 0, 0},
		api.RvSubw:  {"subw", 'R', 59, 0, 32},
		api.RvSllw:  {"sllw", 'R', 59, 1, 0},
		api.RvSrlw:  {"srlw", 'R', 59, 5, 0},
		api.RvSraw:  {"sraw", 'R', 59, 5, 32},
		api.RvEcall: {"ecall", 'E', 115, 0, 0},
	}
	copy(all[api.RvMul:], rowsOfM())
	return all
}

// rowsOfM has the rows of the extension M, from that of RvMul on.
func rowsOfM() []row {
	return []row{
		{"mul", 'R', 51, 0, 1},
		{"mulh", 'R', 51, 1, 1},
		{"mulhsu", 'R', 51, 2, 1},
		{"mulhu", 'R', 51, 3, 1},
		{"div", 'R', 51, 4, 1},
		{"divu", 'R', 51, 5, 1},
		{"rem", 'R', 51, 6, 1},
		{"remu", 'R', 51, 7, 1},
		{"mulw", 'R', 59, 0, 1},
		{"divw", 'R', 59, 4, 1},
		{"divuw", 'R', 59, 5, 1},
		{"remw", 'R', 59, 6, 1},
		{"remuw", 'R', 59, 7, 1},
	}
}

// rowOf tells an operation's row, and whether there is one.
func rowOf(op int) (row, bool) {
	if op < api.RvLui || op > api.RvEcall {
		return row{}, false
	}
	return rows()[op], true
}

// own tells the bits that all words of a row have, and the mask of where these stand.
func (r row) own() (own, mask uint32) {
	const (
		a = 1<<7 - 1
		b = (1<<3 - 1) << 12
		c = (1<<7 - 1) << 25
		// d is c without its lowest bit, which belongs to an immediate up to 63.
		d = (1<<6 - 1) << 26
	)
	own = uint32(r.a) | uint32(r.b)<<12
	switch r.form {
	case 'U', 'J':
		return own, a
	case 'I', 'S', 'B':
		return own, a | b
	case 'R', 'Y':
		return own | uint32(r.c)<<25, a | b | c
	case 'X':
		return own | uint32(r.c)<<26, a | b | d
	}
	return own, 1<<32 - 1
}
