package reloc

import (
	"iter"

	"ferry/api"
	"ferry/fresh"
	"ferry/gmem"
)

const (
	wordBytes = 4
	kept      = 2   // places at the table's beginning, which stay
	mostOwn   = 256 // places of a table's own: dyn.Parse tells 32 at most, but whatever else is given must come to an end
)

// change is what becomes of a word.
type change func(word uint32) (uint32, api.Errno)

// opened is a memory of its own of which all pages may be read and written: words are changed whatever is allowed.
func opened(g api.Guest) api.Guest {
	g = fresh.Guest(g)
	for i := range g.Pages {
		g.Pages[i].Prot = api.PrAll
	}
	return g
}

// changed is an opened memory behind changes of words, each at its address; or the first error.
func changed(g api.Guest, changes iter.Seq2[uint32, change]) (api.Guest, api.Errno) {
	for at, to := range changes {
		var e api.Errno
		if g, e = changedWord(g, at, to); e != api.OK {
			return api.Guest{}, e
		}
	}
	return g, api.OK
}

func changedWord(g api.Guest, at uint32, to change) (api.Guest, api.Errno) {
	word, fault := gmem.Load(g, at, wordBytes)
	if fault.Kind != api.FtNone {
		return api.Guest{}, api.ErrRange
	}
	v, e := to(uint32(word))
	if e != api.OK {
		return api.Guest{}, e
	}
	g, _ = gmem.Store(g, at, wordBytes, uint64(v)) // what was loaded of an opened memory can be stored
	return g, api.OK
}

// relocations hands out where each one is in memory, with what becomes of the word there.
func relocations(m api.Module, symbols []uint32) iter.Seq2[uint32, change] {
	return func(yield func(uint32, change) bool) {
		for _, r := range m.Dyn.Rels {
			if r.Kind == api.RlNothing { // there need not be a word
				continue
			}
			to := func(word uint32) (uint32, api.Errno) { return Value(r, word, m.Moved, address(symbols, r.Sym)) }
			if !yield(r.At+m.Moved, to) {
				return
			}
		}
	}
}

// places hands out where each place of the table is in memory, with what becomes of it.
func places(m api.Module, symbols []uint32) iter.Seq2[uint32, change] {
	return func(yield func(uint32, change) bool) {
		if m.Dyn.Own <= 0 {
			return
		}
		at := m.Dyn.Got + m.Moved
		for i := range min(m.Dyn.Own, mostOwn) {
			by := m.Moved
			if i < kept {
				by = 0
			}
			if !yield(at, more(by)) {
				return
			}
			at += wordBytes
		}
		for n := max(m.Dyn.First, 1); n <= len(symbols); n++ {
			if !yield(at, always(address(symbols, n))) {
				return
			}
			at += wordBytes
		}
	}
}

// more adds to a word.
func more(by uint32) change {
	return func(word uint32) (uint32, api.Errno) { return word + by, api.OK }
}

// always puts a word, whatever was there.
func always(v uint32) change {
	return func(uint32) (uint32, api.Errno) { return v, api.OK }
}

// address is that of the symbol n; 0 of the symbol 0, which has none.
func address(symbols []uint32, n int) uint32 {
	if n < 1 || n > len(symbols) {
		return 0
	}
	return symbols[n-1]
}
