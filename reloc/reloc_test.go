package reloc

import (
	"math"
	"slices"
	"strconv"
	"testing"

	"ferry/api"
)

const last = math.MaxUint32

// P18.1: the chapter's example.
func TestExample(t *testing.T) {
	values(t, rel(0, 0), 100, 4096, 50, 4196)
	values(t, rel(0, 2), 100, 4096, 50, 150)
}

func values(t *testing.T, r api.Rel, word, moved, symbol, want uint32) {
	t.Helper()
	if v, e := Value(r, word, moved, symbol); v != want || e != api.OK {
		t.Errorf("Value(%v, %#x, %#x, %#x): %#x, %v, and not %#x", r, word, moved, symbol, v, e, want)
	}
}

// P18.1: of RlNothing the word, whatever else is there.
func TestValueOfNothing(t *testing.T) {
	for _, sym := range []int{0, 1, -1, math.MaxInt} {
		for _, word := range []uint32{0, 1, 100, 1 << 31, last} {
			values(t, api.Rel{At: 7, Kind: api.RlNothing, Sym: sym}, word, 4096, 50, word)
			values(t, api.Rel{Kind: api.RlNothing, Sym: sym}, word, last, last, word)
		}
	}
}

// P18.1: of RlRel32 a sum: with Moved, if there is no symbol, else with the symbol's address; At does not count.
func TestValueOfRel32(t *testing.T) {
	for _, at := range []uint32{0, 1, 4096, last} {
		values(t, rel(at, 0), 0, 0, 9, 0)
		values(t, rel(at, 0), 3, 4, 9, 7)
		for _, sym := range []int{1, 2, 200, math.MaxInt, -1, math.MinInt} {
			values(t, rel(at, sym), 0, 9, 0, 0)
			values(t, rel(at, sym), 3, 9, 4, 7)
		}
	}
}

// P18.1: sums that go over 2^32.
func TestValueGoesOver(t *testing.T) {
	for _, row := range [][3]uint32{{last, 1, 0}, {1, last, 0}, {last, last, last - 1}, {1 << 31, 1 << 31, 0}, {last - 1, 1, last}, {0xfffff000, 0x2345, 0x1345}} {
		values(t, rel(0, 0), row[0], row[1], 5, row[2])
		values(t, rel(0, 1), row[0], 5, row[1], row[2])
	}
}

// P18.1: kinds that are none.
func TestValueOfNoKind(t *testing.T) {
	for _, kind := range []int{-1, 1, 2, 4, 5, 9, 126, 127, 255, 256, 259, 1 << 32, 1<<32 + 3, -1<<32 + 3, math.MinInt, math.MaxInt} {
		for _, sym := range []int{0, 1} {
			if v, e := Value(api.Rel{Kind: kind, Sym: sym}, 1, 2, 3); v != 0 || e != api.ErrReloc {
				t.Errorf("of kind %d: %d, %v", kind, v, e)
			}
		}
	}
}

// P18.2: a module with nothing to put changes nothing, whatever is mapped, and however it was moved.
func TestApplyNothing(t *testing.T) {
	for _, moved := range []uint32{0, 4096, last - 4095} {
		for n := range 3 {
			g := sample(t, n)
			comes(t, "no symbols", g, module(moved, 0), nil, g)
			comes(t, "an empty list", g, module(moved, 0), []uint32{}, g)
			comes(t, "symbols", g, module(moved, 3), []uint32{1, 2, 3}, g)
		}
	}
	comes(t, "nothing at all", api.Guest{}, api.Module{}, nil, api.Guest{})
}

// P18.2: ErrInval, ahead of all, unless each symbol has an address.
func TestApplyCountsSymbols(t *testing.T) {
	g := sample(t, 1)
	good := table(module(0, 3, rel(start, 3)), start+8, 2, 2)
	comes(t, "as many", g, good, []uint32{5, 6, 7}, with(t, with(t, g, start, wordAt(t, g, start)+7), start+16, 6, 7))
	for _, n := range []int{0, 1, 2, 4, 5, 300} {
		fails(t, strconv.Itoa(n)+" of 3", g, good, make([]uint32, n), api.ErrInval)
		fails(t, strconv.Itoa(n)+" of 3, out of reach", g, table(module(0, 3, rel(0, 1)), 0, 2, 1), make([]uint32, n), api.ErrInval)
		fails(t, strconv.Itoa(n)+" of 3, nothing to put", g, module(0, 3), make([]uint32, n), api.ErrInval)
	}
	fails(t, "1 of 0", g, module(0, 0), []uint32{0}, api.ErrInval)
	comes(t, "200", g, module(0, 200, rel(start, 200)), append(make([]uint32, 199), 9), with(t, g, start, wordAt(t, g, start)+9))
}

// P18.2: of RlNothing nothing is put, and nothing need be there.
func TestApplyRelocationsOfNothing(t *testing.T) {
	g := sample(t, 1)
	var rels []api.Rel
	for _, at := range []uint32{0, start - 4, start - 1, start, start + 5, start + size - 3, start + size, 1 << 31, last - 3, last} {
		rels = append(rels, api.Rel{At: at, Kind: api.RlNothing, Sym: len(rels) % 3})
	}
	for _, moved := range []uint32{0, 4096, last - 4095} {
		comes(t, "nothings", g, module(moved, 2, rels...), []uint32{7, 8}, g)
	}
	among := slices.Concat(rels, []api.Rel{rel(start, 1)}, rels)
	comes(t, "one among them", g, module(0, 2, among...), []uint32{7, 8}, with(t, g, start, wordAt(t, g, start)+7))
}

// P18.2: of RlRel32 the word, and Moved, or the symbol's address, the first one's and the last one's, too.
func TestApplyRel32(t *testing.T) {
	g := with(t, sample(t, 1), start+100, 100, 200, 300, 400, last)
	m := module(4096, 3, rel(start+100-4096, 0), rel(start+104-4096, 1), rel(start+108-4096, 3), rel(start+112-4096, 2), rel(start+116-4096, 2))
	comes(t, "each", g, m, []uint32{7, 5, 9}, with(t, g, start+100, 4196, 207, 309, 405, 4))
	slices.Reverse(m.Dyn.Rels)
	comes(t, "each, the other way round", g, m, []uint32{7, 5, 9}, with(t, g, start+100, 4196, 207, 309, 405, 4))
}

// P18.2: relocations in order, each of what the one ahead of it left.
func TestApplyInOrder(t *testing.T) {
	g := with(t, sample(t, 1), start+8, 0x000000fe, 0x01020304)
	symbols := []uint32{0x101, 0xff}
	comes(t, "two at the same place", g, module(3, 2, rel(start+5, 0), rel(start+5, 1)), symbols, with(t, g, start+8, 0x202, 0x01020304))
	comes(t, "thrice the same", g, module(0, 2, rel(start+8, 2), rel(start+8, 2), rel(start+8, 2)), symbols, with(t, g, start+8, 0xfe+3*0xff, 0x01020304))
	comes(t, "one behind the other", g, module(0, 2, rel(start+8, 1), rel(start+12, 2)), symbols, with(t, g, start+8, 0x1ff, 0x01020403))

	over := laid(t, g, start+8, "\x00\xff\xff\xff\xff\x77")
	ones := []uint32{1, 1}
	comes(t, "over each other", over, module(0, 2, rel(start+8, 1), rel(start+9, 2)), ones, laid(t, g, start+8, "\x01\x00\x00\x01\x00\x77"))
	comes(t, "over each other, the other way round", over, module(0, 2, rel(start+9, 1), rel(start+8, 2)), ones, laid(t, g, start+8, "\x00\x00\x00\x01\x00\x77"))
}

// P18.2: words anywhere: at no multiple of 4, over the host's cells, over two pages, in one of the host's and in two.
func TestApplyAnywhere(t *testing.T) {
	for _, base := range []uint64{0, hostSize, whole, 1 << 62} {
		g := mapped(t, base, pages(6)...)
		for _, border := range []uint32{start + 16, start + size, start + 4*size} {
			for at := border - 9; at < border+9; at++ {
				comes(t, "at "+strconv.Itoa(int(at)), g, module(0, 1, rel(at, 1)), []uint32{0x89abcdef}, with(t, g, at, wordAt(t, g, at)+0x89abcdef))
			}
		}
		for _, at := range []uint32{start, start + 6*size - 4} {
			comes(t, "at an end", g, module(0, 1, rel(at, 1)), []uint32{1}, with(t, g, at, wordAt(t, g, at)+1))
		}
	}
}

// P18.2: what comes to 0 leaves no cell, and what comes to another word makes one.
func TestApplyToZero(t *testing.T) {
	g := laid(t, sample(t, 1), start, string(make([]byte, 64)))
	one := with(t, g, start+8, 1)
	comes(t, "to 0", one, module(0, 1, rel(start+8, 1)), []uint32{last}, g)
	comes(t, "from 0", g, module(1, 0, rel(start+7, 0)), nil, one)
}

// P18.2: ErrRange, if one of a word's pages is not mapped.
func TestApplyNotMapped(t *testing.T) {
	g := mapped(t, whole, api.Page{N: first, Prot: 7}, api.Page{N: first + 2, Prot: 7})
	for _, border := range []uint32{start, start + size, start + 2*size, start + 3*size} {
		for at := border - 3; at < border; at++ {
			fails(t, "over a border", g, module(0, 1, rel(at, 1)), []uint32{0}, api.ErrRange)
			fails(t, "over a border, moved", g, module(size, 0, rel(at-size, 0)), nil, api.ErrRange)
		}
	}
	for _, at := range []uint32{0, size, start - 4, start + size, start + 2*size - 4, start + 3*size, 1 << 31, last - 3} {
		fails(t, "on no page", g, module(0, 1, rel(at, 1)), []uint32{0}, api.ErrRange)
	}
	fails(t, "moved off its page", g, module(size, 0, rel(start, 0)), nil, api.ErrRange)
	comes(t, "moved onto a page", g, module(size, 0, rel(start+size, 0)), nil, with(t, g, start+2*size, wordAt(t, g, start+2*size)+size))
	fails(t, "nothing is mapped", api.Guest{}, module(0, 0, rel(0, 0)), nil, api.ErrRange)
}

// P18.2: at the end of the addresses: a word up to the last one is there, one that goes on is not, though the page 0 is mapped.
func TestApplyAtLast(t *testing.T) {
	g := mapped(t, whole, api.Page{N: 0, Prot: 7}, api.Page{N: lastPage, Prot: 7})
	comes(t, "up to the last", g, module(0, 1, rel(last-3, 1)), []uint32{5}, with(t, g, last-3, wordAt(t, g, last-3)+5))
	comes(t, "from 0 on", g, module(0, 1, rel(0, 1)), []uint32{5}, with(t, g, 0, wordAt(t, g, 0)+5))
	for _, at := range []uint32{last - 2, last - 1, last} {
		fails(t, "over the last", g, module(0, 1, rel(at, 1)), []uint32{5}, api.ErrRange)
		fails(t, "over the last, moved", g, module(last-4095, 1, rel(at+4096, 1)), []uint32{5}, api.ErrRange)
	}
}

// P18.2: words are put whatever is allowed, and what is allowed stays.
func TestApplyWhateverIsAllowed(t *testing.T) {
	for one := range api.PrAll + 1 {
		for two := range api.PrAll + 1 {
			g := mapped(t, whole, api.Page{N: first, Prot: one}, api.Page{N: first + 1, Prot: two})
			at := uint32(start + size - 2)
			comes(t, "over two pages", g, module(0, 1, rel(at, 1)), []uint32{0x12345678}, with(t, g, at, wordAt(t, g, at)+0x12345678))
			m := table(module(size, 1), start-size+8, 3, 1)
			comes(t, "a table", g, m, []uint32{9}, with(t, g, start+16, wordAt(t, g, start+16)+size, 9))
			m.Dyn.Got = start - 12
			comes(t, "a table over two pages", g, m, []uint32{9}, with(t, g, start+size-4, wordAt(t, g, start+size-4)+size, 9))
		}
	}
}

// P18.2: beside an error the memory is as it was, though others ahead of it were put already.
func TestApplyErrorBehindOthers(t *testing.T) {
	g := sample(t, 2)
	good := []api.Rel{rel(start, 0), rel(start+6, 1), {}, rel(start+size, 2)}
	symbols := []uint32{5, 6}
	for _, at := range []uint32{0, start - 1, start + 2*size - 3, start + 2*size, last} {
		bad := rel(at-4, 1)
		for i := range len(good) + 1 {
			fails(t, "a relocation behind others", g, module(4, 2, slices.Insert(slices.Clone(good), i, bad)...), symbols, api.ErrRange)
		}
		fails(t, "a table behind relocations", g, table(module(4, 2, good...), at-4, 2, 3), symbols, api.ErrRange)
	}
	fails(t, "a table's last place", g, table(module(4, 2, good...), start+2*size-4-16, 3, 1), symbols, api.ErrRange)
	comes(t, "all of a table", g, table(module(4, 2), start+2*size-4-20, 3, 1), symbols,
		with(t, g, start+2*size-12, wordAt(t, g, start+2*size-12)+4, 5, 6))
}

// P18.2: Own 0: no table, wherever it would be, and whatever symbols would have places there.
func TestApplyNoTable(t *testing.T) {
	g := sample(t, 1)
	for _, got := range []uint32{0, start, start + size - 4, start + size, last} {
		for _, from := range []int{0, 1, 2, 3} {
			comes(t, "no table", g, table(module(4, 2), got, 0, from), []uint32{5, 6}, g)
		}
	}
	comes(t, "a relocation and no table", g, table(module(0, 2, rel(start, 2)), start, 0, 1), []uint32{5, 6}, with(t, g, start, wordAt(t, g, start)+6))
}

// tableWords is a table of places, of so many of its own, as it is in the file.
func tableWords(own int) []uint32 {
	all := []uint32{0, 1 << 31}
	for i := 2; i < own; i++ {
		all = append(all, uint32(i)*0x1000100)
	}
	return all
}

// P18.2: a table of places: two that stay, its own that are moved, and symbols' addresses, whatever was there.
func TestApplyTable(t *testing.T) {
	symbols := []uint32{0x11111111, 0, last, 0x44444444, 0x400000}
	for _, own := range []int{2, 3, 4, 31, 32} {
		for _, from := range []int{1, 2, 3, 5, 6} { // the last one is behind all symbols
			for _, moved := range []uint32{0, size, 3 * size, last - 4095, 0x80000000, 0xfffe0000} {
				for _, at := range []uint32{start + 64, start + 61, start + 6, start + size - 7, start + size - 32} {
					file, want := tableWords(own), tableWords(own)
					for i := 2; i < own; i++ {
						want[i] += moved
					}
					want = append(want, symbols[from-1:]...)
					g := sample(t, 2)
					g = with(t, g, at, append(file, []uint32{1, 2, 3, 4, 5}[from-1:]...)...)
					comes(t, "a table", g, table(module(moved, len(symbols)), at-moved, own, from), symbols, with(t, g, at, want...))
				}
			}
		}
	}
}

// P18.2: the first two places stay, whatever they are.
func TestApplyFirstTwo(t *testing.T) {
	g := sample(t, 1)
	for _, moved := range []uint32{0, 1, size, last} {
		comes(t, "two alone", g, table(module(moved, 0), start-moved, 2, 1), nil, g)
		comes(t, "two, and no symbol", g, table(module(moved, 2), start-moved, 2, 3), []uint32{1, 2}, g)
	}
}

// P18.2: the greatest table, and many relocations.
func TestApplyMuch(t *testing.T) {
	g := sample(t, 2)
	symbols := make([]uint32, api.MaxSyms)
	var rels []api.Rel
	want := g
	for i := range symbols {
		symbols[i] = uint32(i+1) * 0x01020304
	}
	for i := range 60 {
		at := start + uint32(i)*4
		rels = append(rels, rel(at, 200-i))
		want = with(t, want, at, wordAt(t, g, at)+symbols[199-i])
	}
	want = with(t, want, start+size-100+32*4, symbols...)
	comes(t, "much", g, table(module(0, len(symbols), rels...), start+size-100, 32, 1), symbols, want)
}

// P18.2: ErrRange, if one of a table's places is not mapped, be it of those that stay alone.
func TestApplyTableNotMapped(t *testing.T) {
	g := sample(t, 1)
	symbols := []uint32{5, 6}
	for _, own := range []int{2, 3, 32} {
		for from := 1; from <= 3; from++ {
			n := uint32(4 * (own + 3 - from))
			m := module(size, 2)
			for _, less := range []uint32{1, 2, 3, 4, 5, 7, 8, n - 4, n - 1, n} {
				fails(t, "its beginning is on no page", g, table(m, start-less-size, own, from), symbols, api.ErrRange)
				fails(t, "its end is on no page", g, table(m, start+size-n+less-size, own, from), symbols, api.ErrRange)
			}
			for _, at := range []uint32{0, 1 << 31, last} {
				fails(t, "it is on no page", g, table(m, at, own, from), symbols, api.ErrRange)
			}
		}
	}
	hole := mapped(t, whole, api.Page{N: first, Prot: 7}, api.Page{N: first + 2, Prot: 7})
	fails(t, "its middle is on no page", hole, table(module(0, 2), start+size-4, 2, 1), symbols, api.ErrRange)
	fails(t, "the first two alone", g, table(module(0, 0), start+size-4, 2, 1), nil, api.ErrRange)
	comes(t, "the last that are there", g, table(module(0, 0), start+size-8, 2, 1), nil, g)
}

// P18.2, 0.7: places' addresses count modulo 2^32: behind the last one comes that at 0.
func TestApplyTableOverLast(t *testing.T) {
	g := mapped(t, whole, api.Page{N: 0, Prot: 7}, api.Page{N: lastPage, Prot: 7})
	m := table(module(size, 2), last-11-size, 4, 1)
	want := with(t, g, last-3, wordAt(t, g, last-3)+size)
	comes(t, "over the last", g, m, []uint32{5, 6}, with(t, want, 0, wordAt(t, g, 0)+size, 5, 6))
	m.Dyn.Got -= 2
	fails(t, "one place over the last", g, m, []uint32{5, 6}, api.ErrRange)
}

// P18.2: the table comes behind the relocations, and changes what they left.
func TestApplyTableBehindRelocations(t *testing.T) {
	g := with(t, sample(t, 1), start+16, 100, 200, 300, 400)
	m := table(module(size, 1, rel(start+16-size, 1), rel(start+24-size, 1), rel(start+28-size, 0)), start+16-size, 3, 1)
	comes(t, "relocations of the table", g, m, []uint32{7}, with(t, g, start+16, 107, 200, 307+size, 7))
}
