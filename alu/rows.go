package alu

import "ferry/swap"

// taken is what an instruction makes its number of: what rs and rt have, Imm without a sign and with one, and its small numbers.
type taken struct {
	s, t      uint32
	imm, simm uint32
	sa, rd    int
}

// row is an instruction's name, and what makes its number.
type row struct {
	name string
	work func(x taken) uint32
}

// rows is the chapter's table.
func rows() []row {
	return []row{
		{"add", func(x taken) uint32 { return checked(signed(x.s) + signed(x.t)) }},
		{"sub", func(x taken) uint32 { return checked(signed(x.s) - signed(x.t)) }},
		{"addi", func(x taken) uint32 { return checked(signed(x.s) + signed(x.simm)) }},
		{"addu", func(x taken) uint32 { return x.s + x.t }},
		{"subu", func(x taken) uint32 { return x.s - x.t }},
		{"addiu", func(x taken) uint32 { return x.s + x.simm }},
		{"and", func(x taken) uint32 { return x.s & x.t }},
		{"or", func(x taken) uint32 { return x.s | x.t }},
		{"xor", func(x taken) uint32 { return x.s ^ x.t }},
		{"nor", func(x taken) uint32 { return ^(x.s | x.t) }},
		{"andi", func(x taken) uint32 { return x.s & x.imm }},
		{"ori", func(x taken) uint32 { return x.s | x.imm }},
		{"xori", func(x taken) uint32 { return x.s ^ x.imm }},
		{"slt", func(x taken) uint32 { return truth(signed(x.s) < signed(x.t)) }},
		{"sltu", func(x taken) uint32 { return truth(x.s < x.t) }},
		{"slti", func(x taken) uint32 { return truth(signed(x.s) < signed(x.simm)) }},
		{"sltiu", func(x taken) uint32 { return truth(x.s < x.simm) }},
		{"lui", func(x taken) uint32 { return x.imm << immBits }},
		{"sll", func(x taken) uint32 { return x.t << x.sa }},
		{"srl", func(x taken) uint32 { return x.t >> x.sa }},
		{"sra", func(x taken) uint32 { return uint32(signed(x.t) >> x.sa) }},
		{"sllv", func(x taken) uint32 { return x.t << (x.s % width) }},
		{"srlv", func(x taken) uint32 { return x.t >> (x.s % width) }},
		{"srav", func(x taken) uint32 { return uint32(signed(x.t) >> (x.s % width)) }},
		{"rotr", func(x taken) uint32 { return swap.Rot(x.t, x.sa) }},
		{"rotrv", func(x taken) uint32 { return swap.Rot(x.t, int(x.s%width)) }},
		{"mul", func(x taken) uint32 { return x.s * x.t }},
		{"clz", func(x taken) uint32 { return leading(x.s, 0) }},
		{"clo", func(x taken) uint32 { return leading(x.s, 1) }},
		{"ext", func(x taken) uint32 { return x.s >> x.sa & lowest(x.rd+1) }},
		{"ins", func(x taken) uint32 { return inserted(x.t, x.s<<x.sa, lowest(x.rd-x.sa+1)<<x.sa) }},
		{"wsbh", func(x taken) uint32 { return x.t&0x00ff00ff<<8 | x.t>>8&0x00ff00ff }},
		{"seb", func(x taken) uint32 { return swap.Sext(x.t, 8) }},
		{"seh", func(x taken) uint32 { return swap.Sext(x.t, 16) }},
	}
}

// inserted is a number whose bits in a mask are those of another one.
func inserted(into, from, mask uint32) uint32 { return into&^mask | from&mask }
