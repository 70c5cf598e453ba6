package step

import (
	"ferry/alu"
	"ferry/api"
	"ferry/dec"
	"ferry/wide"
)

const threadReg = 26 // where the thread's place is

// machine is a processor with its memory. Events that leave all as it was are thrown by whatever part of it meets them.
type machine struct {
	api.Cpu
	memory api.Guest
}

// instruction does the one that is next. EvCall alone is told, not thrown, since it goes on behind it.
func (m *machine) instruction() api.Event {
	w := m.fetched()
	i, known := dec.Decode(w)
	way, turns := turnOf(i, m.Cpu)
	if !known || turns && m.Slot {
		panic(api.Event{Kind: api.EvNoIns, Code: w})
	}
	if turns {
		m.turn(way)
		return api.Event{}
	}
	m.work(i, m.R[i.Rs], m.R[i.Rt])
	m.goOn()
	if i.Name == "syscall" {
		return api.Event{Kind: api.EvCall, Code: i.Imm}
	}
	return api.Event{}
}

// goOn lets the instruction behind this one be next.
func (m *machine) goOn() {
	m.Pc, m.Next, m.Slot = m.Next, m.Next+wordBytes, false
}

// set writes a register, but register 0, which is 0 whatever is written.
func (m *machine) set(reg int, v uint32) {
	if reg != 0 {
		m.R[reg] = v
	}
}

// work does an instruction that is no branch and no jump, of what Rs and Rt have.
func (m *machine) work(i api.Ins, s, t uint32) {
	switch {
	case alu.Known(i.Name):
		m.set(madeIn(i), made(i, s, t))
	case wide.Known(i.Name):
		m.Hi, m.Lo = wide.Do(i.Name, s, t, m.Hi, m.Lo)
	case alu.Traps(i.Name, s, t):
		panic(api.Event{Kind: api.EvTrap})
	case dec.Form(i.Name) == "tm":
		m.reach(i, s, t)
	default:
		m.move(i, s, t)
	}
}

// made is the number that an instruction makes; EvOver is thrown.
func made(i api.Ins, s, t uint32) uint32 {
	v, ok := alu.Do(i, s, t)
	if !ok {
		panic(api.Event{Kind: api.EvOver})
	}
	return v
}

// madeIn is the register that the number goes to which an instruction makes.
func madeIn(i api.Ins) int {
	switch dec.Form(i.Name) {
	case "tsi", "ti", "tsx":
		return i.Rt
	}
	return i.Rd
}

// move does an instruction that takes a number from one place to another, and break. Of a trap that does not, and of syscall, there is nothing to do here.
func (m *machine) move(i api.Ins, s, t uint32) {
	switch {
	case i.Name == "mfhi":
		m.set(i.Rd, m.Hi)
	case i.Name == "mflo":
		m.set(i.Rd, m.Lo)
	case i.Name == "movz" && t == 0, i.Name == "movn" && t != 0:
		m.set(i.Rd, s)
	case i.Name == "rdhwr":
		m.set(i.Rt, m.R[threadReg])
	case i.Name == "break":
		panic(api.Event{Kind: api.EvBreak, Code: i.Imm})
	}
}
