package reloc

import (
	"maps"
	"math"
	"reflect"
	"slices"
	"testing"

	"ferry/api"
	"ferry/gmem"
	"ferry/guest"
	"ferry/host"
)

// chance hands out numbers by a simple rule.
type chance uint64

func (c *chance) next() uint32 {
	*c = *c*6364136223846793005 + 1442695040888963407
	return uint32(*c >> 32)
}

func (c *chance) below(n uint32) uint32 { return c.next() % n }

func (c *chance) upTo(n int) int { return int(c.below(uint32(n + 1))) }

func oneOf[T any](c *chance, all ...T) T { return all[c.below(uint32(len(all)))] }

func (c *chance) bytes(n int) string {
	out := make([]byte, n)
	for i := range out {
		out[i] = byte(c.next())
	}
	return string(out)
}

func (c *chance) number() uint32 {
	return oneOf(c, 0, c.below(100), c.next(), math.MaxUint32-c.below(9))
}

// model is a guest's bytes that were asked for, one by one.
type model struct {
	g     api.Guest
	bytes map[uint64]byte
}

// at is a byte, unless its page is not mapped.
func (m model) at(place uint64) (byte, bool) {
	if b, is := m.bytes[place]; is {
		return b, true
	}
	isThere := place < whole && slices.ContainsFunc(m.g.Pages, func(p api.Page) bool { return uint64(p.N) == place/size })
	if !isThere {
		return 0, false
	}
	v, _ := host.Load(m.g.Host, m.g.Base+place, 1)
	return byte(v), true
}

// word is that from a on, unless one of its bytes is not there.
func (m model) word(a uint32) (word uint32, isThere bool) {
	isThere = true
	for i := range uint64(4) {
		b, is := m.at(uint64(a) + i)
		word, isThere = word*256+uint32(b), isThere && is
	}
	return word, isThere
}

func (m model) put(a, word uint32) {
	for i := range 4 {
		m.bytes[uint64(a)+uint64(i)] = byte(word >> (24 - 8*i))
	}
}

// guest is the memory with the bytes that were put, as many of them in a row as there are.
func (m model) guest() api.Guest {
	g, row := m.g, []byte(nil)
	for _, place := range slices.Sorted(maps.Keys(m.bytes)) {
		row = append(row, m.bytes[place])
		if _, goesOn := m.bytes[place+1]; !goesOn {
			g, _ = gmem.Poke(g, uint32(place+1)-uint32(len(row)), string(row))
			row = nil
		}
	}
	return g
}

// modelApply does what the chapter's sentences say, one by one.
func modelApply(g api.Guest, mod api.Module, symbols []uint32) (api.Guest, api.Errno) {
	d := mod.Dyn
	if len(symbols) != len(d.Syms) {
		return g, api.ErrInval
	}
	m := model{g, map[uint64]byte{}}
	for _, r := range d.Rels {
		if r.Kind == 0 {
			continue
		}
		word, isThere := m.word(r.At + mod.Moved)
		if !isThere {
			return g, api.ErrRange
		}
		if r.Sym == 0 {
			m.put(r.At+mod.Moved, word+mod.Moved)
		} else {
			m.put(r.At+mod.Moved, word+symbols[r.Sym-1])
		}
	}
	if d.Own == 0 {
		return m.guest(), api.OK
	}
	count := d.Own + len(symbols) + 1 - d.First
	for i := range count {
		at := d.Got + mod.Moved + 4*uint32(i)
		word, isThere := m.word(at)
		switch {
		case !isThere:
			return g, api.ErrRange
		case i >= d.Own:
			m.put(at, symbols[d.First+i-d.Own-1])
		case i >= 2:
			m.put(at, word+mod.Moved)
		}
	}
	return m.guest(), api.OK
}

// memory is pages beside each other, in one of the host's and in two, and the first and the last ones, of any Prot.
func (c *chance) memory(t *testing.T) api.Guest {
	t.Helper()
	var all []api.Page
	for _, n := range []uint32{0, first, first + 1, first + 2, first + 3, first + 4, first + 6, lastPage - 1, lastPage} {
		if c.below(8) > 0 {
			all = append(all, api.Page{N: n, Prot: c.upTo(7)})
		}
	}
	return mapped(t, oneOf[uint64](c, 0, hostSize, whole, 1<<62), all...)
}

// place is an address where n bytes mostly are there, not seldom near to a page's border.
func (c *chance) place(n uint32) uint32 {
	if c.below(20) == 0 {
		return c.next()
	}
	from := oneOf[uint32](c, 0, start, start, start, start+6*size, 1<<32-2*size)
	pages := oneOf[uint32](c, 1, 2, 5)
	if c.below(3) > 0 {
		return from + c.below(pages*size)
	}
	return from + pages*size - n + c.below(8) - 4
}

// module is one whose Dyn dyn.Parse could tell, by chance; and symbols' addresses.
func (c *chance) module() (api.Module, []uint32) {
	count := oneOf(c, 0, 1, 2, 5, 200, c.upTo(200))
	m := module(oneOf(c, 0, size, c.next()/size*size, 1<<32-size), count)
	symbols := make([]uint32, count)
	for i := range symbols {
		symbols[i] = c.number()
	}
	for range oneOf(c, 0, 1, 2, 5, c.upTo(60)) {
		m.Dyn.Rels = append(m.Dyn.Rels, api.Rel{At: c.place(4) - m.Moved, Kind: oneOf(c, 0, 3, 3), Sym: c.upTo(count)})
		if n := len(m.Dyn.Rels); n > 1 && c.below(4) == 0 {
			m.Dyn.Rels[n-1].At = m.Dyn.Rels[n-2].At + c.below(7) - 3
		}
	}
	if c.below(3) > 0 {
		own, from := 2+oneOf(c, 0, 1, 30, c.upTo(30)), 1+oneOf(c, 0, count, c.upTo(count))
		m = table(m, c.place(uint32(4*(own+count+1-from)))-m.Moved, own, from)
	}
	if c.below(20) == 0 {
		symbols = make([]uint32, max(0, count+oneOf(c, -1, 1)))
	}
	return m, symbols
}

// P18.2, P18.4: modules by chance against the model; what was given stays, no other byte changes, and no page does.
func TestModel(t *testing.T) {
	c := chance(18)
	counts := map[api.Errno]int{}
	var g api.Guest
	for i := range 2000 {
		if i%10 == 0 { // to make one takes longer than to change it
			g = c.memory(t)
		}
		m, symbols := c.module()
		given, rels, addresses := cloned(g), slices.Clone(m.Dyn.Rels), slices.Clone(symbols)
		got, e := Apply(g, m, symbols)
		want, wrong := modelApply(g, m, symbols)
		if e != wrong || !equal(got, want) || !guest.Fit(got) {
			t.Fatalf("%v, %x: %v, and not %v; as it should be: %v, fit: %v", m, symbols, e, wrong, equal(got, want), guest.Fit(got))
		}
		if !equal(g, given) || !slices.Equal(m.Dyn.Rels, rels) || !slices.Equal(symbols, addresses) {
			t.Fatalf("%v, %x: what was given changed", m, symbols)
		}
		counts[e]++
	}
	for _, e := range []api.Errno{api.OK, api.ErrRange, api.ErrInval} {
		if counts[e] < 50 {
			t.Errorf("%v was met but %d times", e, counts[e])
		}
	}
}

// 0.5: what a call tells shares no memory with what it was given, nor with what another call tells, beside errors either.
func TestNothingShared(t *testing.T) {
	g := sample(t, 2)
	for what, row := range map[string]struct {
		m       api.Module
		symbols []uint32
		e       api.Errno
	}{
		"relocations":            {module(size, 2, rel(start-size, 0), rel(start, 2)), []uint32{5, 6}, api.OK},
		"a table":                {table(module(size, 2), start, 3, 1), []uint32{5, 6}, api.OK},
		"nothing":                {module(size, 2), []uint32{5, 6}, api.OK},
		"relocations of nothing": {module(size, 0, api.Rel{}), nil, api.OK},
		"ErrInval":               {module(size, 2), nil, api.ErrInval},
		"ErrRange":               {module(0, 0, rel(start, 0), rel(0, 0)), nil, api.ErrRange},
		"ErrRange of a table":    {table(module(0, 0), 0, 2, 1), nil, api.ErrRange},
	} {
		given := api.Guest{
			Host:  api.Host{Maps: append(make([]api.Map, 0, 100), g.Host.Maps...), Cells: append(make([]api.Cell, 0, 9999), g.Host.Cells...)},
			Base:  g.Base,
			Pages: append(make([]api.Page, 0, 100), g.Pages...),
		}
		got, e := Apply(given, row.m, row.symbols)
		other, _ := Apply(given, row.m, row.symbols)
		if e != row.e || !equal(given, g) {
			t.Errorf("%s: %v; what was given changed: %v", what, e, !equal(given, g))
		}
		keep := cloned(got)
		scribble(given)
		scribble(other)
		if !equal(got, keep) {
			t.Errorf("%s: what it told changed", what)
		}
	}
}

// scribble changes all that a memory's lists have room for.
func scribble(g api.Guest) {
	clear(g.Host.Maps[:cap(g.Host.Maps)])
	clear(g.Host.Cells[:cap(g.Host.Cells)])
	clear(g.Pages[:cap(g.Pages)])
}

// 0.1: any memory and any module come to an end, and beside an error the memory is as it was.
func TestAnything(t *testing.T) {
	c := chance(181)
	odd := []int{0, 1, -1, 2, 3, 32, 33, 200, 20000, 1 << 32, math.MinInt, math.MinInt + 1, math.MaxInt - 1, math.MaxInt}
	var full api.Guest
	for i := range 1000 {
		if i%10 == 0 {
			full = c.memory(t)
		}
		g := cloned(full)
		for range oneOf(&c, 0, 0, 1, 3) {
			switch c.below(4) {
			case 0:
				g.Host.Maps = append(g.Host.Maps, api.Map{Page: uint64(c.number()), Prot: oneOf(&c, odd...)})
			case 1:
				g.Host.Cells = append(g.Host.Cells, api.Cell{At: uint64(c.number()), Word: uint64(c.number())})
			case 2:
				g.Pages = append(g.Pages, api.Page{N: c.number(), Prot: oneOf(&c, odd...)})
			default:
				g.Base = math.MaxUint64 - uint64(c.number())
			}
		}
		m, symbols := c.module()
		for range oneOf(&c, 1, 2, 3) {
			switch c.below(4) {
			case 0:
				m.Dyn.Own = oneOf(&c, odd...)
			case 1:
				m.Dyn.First = oneOf(&c, odd...)
			case 2:
				m.Dyn.Rels = append(m.Dyn.Rels, api.Rel{At: c.place(4) - m.Moved, Kind: oneOf(&c, odd...), Sym: oneOf(&c, odd...)})
			default:
				m.Moved = c.next()
			}
		}
		given := cloned(g)
		if got, e := Apply(g, m, symbols); e != api.OK && !reflect.DeepEqual(cloned(got), given) {
			t.Fatalf("%v: %v, and not as it was", m, e)
		}
	}
}

// 0.1: a table of any length comes to an end, be all that a guest can have mapped.
func TestAnyTable(t *testing.T) {
	full, e := guest.Map(api.Guest{Base: whole}, 0, 256, api.PrAll)
	if e != api.OK {
		t.Fatal(e)
	}
	all := api.Guest{Pages: make([]api.Page, 1<<20)} // not fit
	for i := range all.Pages {
		all.Pages[i] = api.Page{N: uint32(i), Prot: api.PrAll}
	}
	for _, g := range []api.Guest{full, all} {
		Apply(g, table(module(size, 1), 0, math.MaxInt, math.MaxInt), []uint32{1})
		for _, own := range []int{1, 2, -1, math.MinInt} {
			for _, from := range []int{math.MinInt, 0, 3, math.MaxInt} {
				Apply(g, table(module(0, 1), 0, own, from), []uint32{1})
			}
		}
	}
}
