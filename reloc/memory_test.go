package reloc

import (
	"encoding/binary"
	"slices"
	"testing"

	"ferry/api"
	"ferry/gmem"
	"ferry/guest"
	"ferry/host"
)

const (
	size     = 4096
	hostSize = 16384
	whole    = 1 << 32 // bytes of the guest's reach
	lastPage = 1<<20 - 1
	first    = 0x400 // the number of the page from which on a sample's pages are
	start    = first * size
)

// mapped is a memory with pages, whose bytes are not 0, and with bytes out of the guest's reach.
func mapped(t *testing.T, base uint64, pages ...api.Page) api.Guest {
	t.Helper()
	g := api.Guest{Base: base, Host: far(t, base)}
	for _, p := range pages {
		var e api.Errno
		if g, e = guest.Map(g, p.N, 1, p.Prot); e != api.OK {
			t.Fatalf("guest.Map of page %#x: %v", p.N, e)
		}
		g = laid(t, g, p.N*size, counted(p.N))
	}
	return g
}

// far is a host's memory with pages at both ends of the guest's reach.
func far(t *testing.T, base uint64) api.Host {
	t.Helper()
	h := api.Host{Maps: []api.Map{{Page: (base + whole) / hostSize, Prot: 3}}}
	if base > 0 {
		h.Maps = slices.Insert(h.Maps, 0, api.Map{Page: base/hostSize - 1, Prot: 3})
		h = stored(t, h, base-8)
	}
	return stored(t, h, base+whole)
}

func stored(t *testing.T, h api.Host, at uint64) api.Host {
	t.Helper()
	h, f := host.Store(h, at, 8, 0x0123456789abcdef)
	if f.Kind != api.FtNone {
		t.Fatalf("host.Store at %#x: %v", at, f)
	}
	return h
}

// counted is a page of bytes of which none is as its neighbours are.
func counted(seed uint32) string {
	out := make([]byte, size)
	for i := range out {
		out[i] = byte(int(seed)*11 + i*37 + i>>8 + 1)
	}
	return string(out)
}

func laid(t *testing.T, g api.Guest, a uint32, s string) api.Guest {
	t.Helper()
	g, f := gmem.Poke(g, a, s)
	if f.Kind != api.FtNone {
		t.Fatalf("gmem.Poke at %#x: %v", a, f)
	}
	return g
}

// words is numbers of 4 bytes, the highest byte first.
func words(all ...uint32) string {
	var out []byte
	for _, v := range all {
		out = binary.BigEndian.AppendUint32(out, v)
	}
	return string(out)
}

// with is a memory with words from a on, whatever is allowed there.
func with(t *testing.T, g api.Guest, a uint32, all ...uint32) api.Guest {
	t.Helper()
	return laid(t, g, a, words(all...))
}

// wordAt is the word at an address as the host has it, byte by byte.
func wordAt(t *testing.T, g api.Guest, a uint32) (word uint32) {
	t.Helper()
	for i := range uint32(4) {
		v, f := host.Load(g.Host, g.Base+uint64(a+i), 1)
		if f.Kind != api.FtNone {
			t.Fatalf("host.Load of the byte at %#x: %v", a+i, f)
		}
		word = word<<8 | uint32(v)
	}
	return word
}

func cloned(g api.Guest) api.Guest {
	return api.Guest{
		Host:  api.Host{Maps: slices.Clone(g.Host.Maps), Cells: slices.Clone(g.Host.Cells)},
		Base:  g.Base,
		Pages: slices.Clone(g.Pages),
	}
}

func equal(a, b api.Guest) bool {
	return a.Base == b.Base && slices.Equal(a.Pages, b.Pages) &&
		slices.Equal(a.Host.Maps, b.Host.Maps) && slices.Equal(a.Host.Cells, b.Host.Cells)
}

// pages is n pages from the sample's first on, of which all may be done.
func pages(n int) (all []api.Page) {
	for i := range n {
		all = append(all, api.Page{N: first + uint32(i), Prot: api.PrAll})
	}
	return all
}

// sample is a memory of n such pages.
func sample(t *testing.T, n int) api.Guest {
	t.Helper()
	return mapped(t, whole, pages(n)...)
}

// module is one that was moved, with so many symbols, and relocations.
func module(moved uint32, syms int, rels ...api.Rel) api.Module {
	return api.Module{Moved: moved, Dyn: api.Dyn{Syms: make([]api.Sym, syms), Rels: rels}}
}

// table is that module with a table of places.
func table(m api.Module, got uint32, own, from int) api.Module {
	m.Dyn.Got, m.Dyn.Own, m.Dyn.First = got, own, from
	return m
}

// rel is a relocation of RlRel32.
func rel(at uint32, sym int) api.Rel { return api.Rel{At: at, Kind: api.RlRel32, Sym: sym} }

// comes holds Apply to a memory that is as another one.
func comes(t *testing.T, what string, g api.Guest, m api.Module, symbols []uint32, want api.Guest) {
	t.Helper()
	given := cloned(g)
	got, e := Apply(g, m, symbols)
	if e != api.OK || !equal(got, want) || !guest.Fit(got) {
		t.Errorf("%s: %v, as it should be: %v, fit: %v", what, e, equal(got, want), guest.Fit(got))
	}
	if !equal(g, given) {
		t.Errorf("%s: what was given changed", what)
	}
}

// fails holds Apply to an error, with the memory as it was.
func fails(t *testing.T, what string, g api.Guest, m api.Module, symbols []uint32, want api.Errno) {
	t.Helper()
	given := cloned(g)
	if got, e := Apply(g, m, symbols); e != want || !equal(got, given) || !equal(g, given) {
		t.Errorf("%s: %v, and not %v; as it was: %v", what, e, want, equal(got, given))
	}
}
