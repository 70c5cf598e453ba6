package reloc

import (
	"slices"
	"strings"
	"testing"

	"ferry/api"
	"ferry/dyn"
	"ferry/guest"
	"ferry/host"
	"ferry/image"
	"ferry/pack"
)

// text is a text of some bytes.
func (c *chance) text() string { return strings.Repeat(oneOf(c, "x", "y", "\xff"), 1+c.upTo(30)) }

// lib is a library that is fit, and can be loaded where it is.
func (c *chance) lib() (l api.Lib) {
	l = api.Lib{Shared: c.below(2) == 0, Base: oneOf(c, 16, 1024, 16+c.below(1<<18-15)) * size, Bss: oneOf[uint32](c, 0, 1, 8192)}
	l.Code, l.Data = c.bytes(4*oneOf(c, 1, 2, 1024, c.upTo(100))), c.bytes(oneOf(c, 0, 4, 8, 4096, c.upTo(300)))
	for range oneOf(c, 0, 1, 2, 60, c.upTo(60)) {
		l.Syms = append(l.Syms, api.Sym{Name: c.text(), Value: c.number(), Size: c.number(), Bind: c.upTo(2), Part: c.upTo(2)})
	}
	for range oneOf(c, 0, 1, 30, c.upTo(30)) {
		l.Local = append(l.Local, c.number())
	}
	if len(l.Data) >= 4 {
		for range oneOf(c, 0, 0, 1, 2, 60, c.upTo(60)) {
			l.Rels = append(l.Rels, api.Rel{At: c.below(uint32(len(l.Data) - 3)), Kind: oneOf(c, 0, 3), Sym: c.upTo(len(l.Syms))})
		}
	}
	l.Global = oneOf(c, 0, len(l.Syms), c.upTo(len(l.Syms)))
	return l
}

// loaded is a library's module and the memory that it is in, moved to where there is room, if that is asked for.
func loaded(t *testing.T, l api.Lib, isMoved bool) (api.Guest, api.Module) {
	t.Helper()
	s := pack.File(l)
	m, e := image.Parse(s)
	if e != api.OK {
		t.Fatalf("image.Parse of %#v: %v", l, e)
	}
	space := api.Space{Guest: api.Guest{Base: whole, Host: far(t, whole)}, Start: size, End: size}
	moved := uint32(0)
	if isMoved {
		moved, e = image.Room(space, m)
		if e != api.OK {
			t.Fatalf("image.Room of %#v: %v", l, e)
		}
	}
	space, e = image.Load(space, m, s, moved)
	if e != api.OK {
		t.Fatalf("image.Load of %#v: %v", l, e)
	}
	d, e := dyn.Parse(m, s)
	if e != api.OK {
		t.Fatalf("dyn.Parse of %#v: %v", l, e)
	}
	return space.Guest, api.Module{Name: l.Soname, Moved: moved, Image: m, Dyn: d}
}

// asInFile is the symbols' addresses as the file says them.
func asInFile(m api.Module) (all []uint32) {
	for _, s := range m.Dyn.Syms {
		all = append(all, s.Value)
	}
	return all
}

// isPut tells whether a module asks for the byte at an address to be changed.
func isPut(m api.Module, a uint32) bool {
	isTable := m.Dyn.Own > 0 && a-(m.Dyn.Got+m.Moved) < uint32(4*(m.Dyn.Own+len(m.Dyn.Syms)+1-m.Dyn.First))
	return isTable || slices.ContainsFunc(m.Dyn.Rels, func(r api.Rel) bool { return r.Kind == api.RlRel32 && a-(r.At+m.Moved) < 4 })
}

// stays holds all bytes but those that a module asks for, and all pages, to what they were.
func stays(t *testing.T, m api.Module, was, now api.Guest) {
	t.Helper()
	if !slices.Equal(was.Pages, now.Pages) || !slices.Equal(was.Host.Maps, now.Host.Maps) || was.Base != now.Base || !guest.Fit(now) {
		t.Fatalf("%v: pages changed", m.Dyn)
	}
	places := map[uint64]bool{}
	for _, c := range slices.Concat(was.Host.Cells, now.Host.Cells) {
		places[c.At] = true
	}
	for place := range places {
		for i := range uint64(8) {
			a := place + i - was.Base
			one, _ := host.Load(was.Host, place+i, 1)
			two, _ := host.Load(now.Host, place+i, 1)
			if one != two && (a >= whole || !isPut(m, uint32(a))) {
				t.Fatalf("%v: the byte at %#x changed", m.Dyn, a)
			}
		}
	}
}

// P18.3, P18.4: where nothing was moved, and symbols are as the file says, the table of places stays; so do all words but relocations'.
func TestNothingMoved(t *testing.T) {
	c := chance(183)
	for range 600 {
		l := c.lib()
		g, m := loaded(t, l, false)
		got, e := Apply(g, m, asInFile(m))
		if e != api.OK {
			t.Fatalf("%#v: %v", l, e)
		}
		onlyRels := m
		onlyRels.Dyn.Own = 0
		stays(t, onlyRels, g, got)
		if !slices.ContainsFunc(l.Rels, func(r api.Rel) bool { return r.Kind == api.RlRel32 }) && !equal(got, g) {
			t.Fatalf("%v: it has no relocations, and changed", l)
		}
	}
}

// P18.2, P18.4: of libraries by chance, moved or not, with any addresses: each place has what the chapter says, and words elsewhere stay.
func TestLibraries(t *testing.T) {
	c := chance(184)
	for range 600 {
		l := c.lib()
		g, m := loaded(t, l, l.Shared && c.below(3) > 0)
		symbols := make([]uint32, len(m.Dyn.Syms))
		for i := range symbols {
			symbols[i] = c.number()
		}
		got, e := Apply(g, m, symbols)
		want, _ := modelApply(g, m, symbols)
		if e != api.OK || !equal(got, want) {
			t.Fatalf("%#v: %v, as it should be: %v", l, e, equal(got, want))
		}
		stays(t, m, g, got)
		hasPlaces(t, l, m, symbols, got)
	}
}

// hasPlaces holds a table of places to what its library was made of.
func hasPlaces(t *testing.T, l api.Lib, m api.Module, symbols []uint32, g api.Guest) {
	t.Helper()
	p := pack.Place(l)
	want := []uint32{0, 1 << 31}
	for _, v := range l.Local {
		want = append(want, p.Code+v+m.Moved)
	}
	want = append(want, symbols[len(symbols)-l.Global:]...)
	for i, v := range want {
		if at := p.Got + m.Moved + 4*uint32(i); wordAt(t, g, at) != v {
			t.Fatalf("%#v: the place %d is %#x, and not %#x", l, i, wordAt(t, g, at), v)
		}
	}
}

// P18.2, P18.3: a library of each part, whose words are known.
func TestOneLibrary(t *testing.T) {
	l := api.Lib{
		Shared: true, Base: start, Code: strings.Repeat("\x00", 16), Data: words(0x10, 0x20, 0x30),
		Syms: []api.Sym{
			{Name: "main", Value: 4, Bind: api.SyGlobal, Part: api.PtCode},
			{Name: "puts", Bind: api.SyGlobal},
			{Name: "count", Value: 8, Bind: api.SyWeak, Part: api.PtData},
		},
		Rels:  []api.Rel{{At: 0, Kind: api.RlRel32}, {At: 4, Kind: api.RlRel32, Sym: 2}, {At: 8}},
		Local: []uint32{4, 8}, Global: 2,
	}
	p := pack.Place(l)
	for _, isMoved := range []bool{false, true} {
		g, m := loaded(t, l, isMoved)
		if isMoved == (m.Moved == 0) {
			t.Fatalf("moved by %#x", m.Moved)
		}
		want := with(t, g, p.Data+m.Moved, 0x10+m.Moved, 0x20, 0x30)
		want = with(t, want, p.Got+m.Moved, 0, 1<<31, p.Code+4+m.Moved, p.Code+8+m.Moved, 0, p.Data+8)
		comes(t, "symbols as the file says", g, m, asInFile(m), want)
		want = with(t, want, p.Data+m.Moved+4, 0x20+0x77777770)
		want = with(t, want, p.Got+m.Moved+16, 0x77777770, 0x60000000)
		comes(t, "symbols that are others", g, m, []uint32{1, 0x77777770, 0x60000000}, want)
	}
}
