package step

import (
	"ferry/api"
	"ferry/swap"
)

const (
	immBits  = 16            // of an instruction's Imm as a number with a sign
	nearby   = 1<<28 - 1     // the bits of an address that a jump's Imm tells
	linkReg  = 31            // which holds where a call returns to
	noLink   = 0             // register 0, which keeps nothing
	linkedBy = 2 * wordBytes // behind the branch, and behind its slot
)

// way is where a branch or a jump leads, whether it goes there, and the register that is linked.
type way struct {
	to   uint32
	goes bool
	link int
}

// turnOf is the way of a branch or a jump; false: it is neither.
func turnOf(i api.Ins, c api.Cpu) (way, bool) {
	s, t := c.R[i.Rs], c.R[i.Rt]
	slot := c.Pc + wordBytes
	far := slot&^nearby | i.Imm*wordBytes
	near := slot + simm(i)*wordBytes
	switch i.Name {
	case "j":
		return way{far, true, noLink}, true
	case "jal":
		return way{far, true, linkReg}, true
	case "jr":
		return way{s, true, noLink}, true
	case "jalr":
		return way{s, true, i.Rd}, true
	case "beq":
		return way{near, s == t, noLink}, true
	case "bne":
		return way{near, s != t, noLink}, true
	case "blez":
		return way{near, int32(s) <= 0, noLink}, true
	case "bgtz":
		return way{near, int32(s) > 0, noLink}, true
	case "bltz":
		return way{near, int32(s) < 0, noLink}, true
	case "bgez":
		return way{near, int32(s) >= 0, noLink}, true
	case "bltzal":
		return way{near, int32(s) < 0, linkReg}, true
	case "bgezal":
		return way{near, int32(s) >= 0, linkReg}, true
	}
	return way{}, false
}

// turn links, whether it goes or not, and lets the slot be next.
func (m *machine) turn(w way) {
	m.set(w.link, m.Pc+linkedBy)
	m.goOn()
	m.Slot = true
	if w.goes {
		m.Next = w.to
	}
}

// simm is an instruction's Imm with its sign.
func simm(i api.Ins) uint32 { return swap.Sext(i.Imm, immBits) }
