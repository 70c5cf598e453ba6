package step

import (
	"ferry/api"
	"ferry/gmem"
	"ferry/swap"
	"ferry/wide"
)

const (
	byteBits = 8
	halfBits = 16
)

// reach does a load or a store.
func (m *machine) reach(i api.Ins, s, t uint32) {
	a := s + simm(i)
	at := a % wordBytes // which byte of its word it is
	word := a - at
	switch i.Name {
	case "lb":
		m.set(i.Rt, swap.Sext(m.load(a, 1), byteBits))
	case "lbu":
		m.set(i.Rt, m.load(a, 1))
	case "lh":
		m.set(i.Rt, swap.Sext(m.load(a, 2), halfBits))
	case "lhu":
		m.set(i.Rt, m.load(a, 2))
	case "lw":
		m.set(i.Rt, m.load(a, wordBytes))
	case "ll":
		m.set(i.Rt, m.load(a, wordBytes))
		m.Link, m.Linked = a, true
	case "lwl":
		m.set(i.Rt, wide.LoadLeft(t, m.load(word, wordBytes), int(at)))
	case "lwr":
		m.set(i.Rt, wide.LoadRight(t, m.load(word, wordBytes), int(at)))
	case "sb":
		m.store(a, 1, t)
	case "sh":
		m.store(a, 2, t)
	case "sw":
		m.store(a, wordBytes, t)
	case "sc":
		m.set(i.Rt, m.storeLinked(a, t))
	case "swl":
		m.store(word, wordBytes, wide.StoreLeft(m.load(word, wordBytes), t, int(at)))
	case "swr":
		m.store(word, wordBytes, wide.StoreRight(m.load(word, wordBytes), t, int(at)))
	}
}

// load is the number of n bytes at a.
func (m *machine) load(a, n uint32) uint32 {
	aligned(a, n)
	v, f := gmem.Load(m.memory, a, int(n))
	allowed(f)
	return uint32(v)
}

// store puts a number's lowest n bytes at a. None is in two words, so the link is asked of one.
func (m *machine) store(a, n, v uint32) {
	aligned(a, n)
	g, f := gmem.Store(m.memory, a, int(n), uint64(v))
	allowed(f)
	m.memory = g
	if a/wordBytes == m.Link/wordBytes {
		m.Linked = false
	}
}

// storeLinked stores a word where it is linked, and tells 1; elsewhere nothing, 0. An address that is no multiple is asked for ahead of that, a fault is not.
func (m *machine) storeLinked(a, v uint32) uint32 {
	aligned(a, wordBytes)
	held := m.Linked && m.Link == a
	m.Linked = false
	if !held {
		return 0
	}
	m.store(a, wordBytes, v)
	return 1
}
