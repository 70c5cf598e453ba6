package link

import (
	"math"
	"reflect"
	"slices"
	"strings"
	"testing"

	"ferry/api"
	"ferry/gmap"
	"ferry/image"
	"ferry/pack"
)

// chance hands out numbers by a simple rule.
type chance uint64

func (c *chance) next() uint32 {
	*c = *c*6364136223846793005 + 1442695040888963407
	return uint32(*c >> 32)
}

func (c *chance) below(n uint32) uint32 { return c.next() % n }

func (c *chance) upTo(n int) int { return int(c.below(uint32(n + 1))) }

func oneOf[T any](c *chance, all ...T) T { return all[c.below(uint32(len(all)))] }

func (c *chance) bytes(n int) string {
	out := make([]byte, n)
	for i := range out {
		out[i] = byte(c.next())
	}
	return string(out)
}

func (c *chance) number() uint32 {
	return oneOf(c, 0, c.below(100), c.next(), math.MaxUint32-c.below(9))
}

// made is a file by what it is made of, and what is wrong with it as a file.
type made struct {
	file  api.File
	lib   api.Lib
	rels  []api.Rel // as they stand in the file
	wrong api.Errno
}

// name is a file's, seldom one that no file has.
func (c *chance) name() string {
	if c.below(60) == 0 {
		return "none"
	}
	return string(rune('a' + c.below(11)))
}

func (c *chance) sym() api.Sym {
	name := "f" + string(rune('a'+c.below(12)))
	s := api.Sym{Name: name, Value: c.number(), Size: c.number(), Bind: oneOf(c, 0, 1, 1, 2), Part: c.upTo(2)}
	if s.Bind == api.SyGlobal && s.Part == api.PtNone && c.below(4) > 0 {
		s.Bind = api.SyWeak
	}
	return s
}

// lib is a library that needs some others.
func (c *chance) lib(base uint32) api.Lib {
	l := api.Lib{Shared: c.below(4) > 0, Base: base, Entry: c.below(4097), Bss: oneOf[uint32](c, 0, 0, 1, 8192), Init: oneOf(c, 0, 1, c.below(4097))}
	l.Code, l.Data = c.bytes(4*oneOf(c, 1, 2, c.upTo(50))), c.bytes(oneOf(c, 0, 4, 8, c.upTo(200)))
	l.Soname = oneOf(c, "", "a", "libc.so")
	for range oneOf(c, 0, 1, 1, 2, 3) {
		l.Needed = append(l.Needed, c.name())
	}
	for range oneOf(c, 0, 1, 3, 10, c.upTo(20)) {
		l.Syms = append(l.Syms, c.sym())
	}
	for range oneOf(c, 0, 0, 1, 5) {
		l.Local = append(l.Local, c.number())
	}
	if len(l.Data) >= 4 {
		for range oneOf(c, 0, 1, 2, 9) {
			l.Rels = append(l.Rels, api.Rel{At: c.below(uint32(len(l.Data) - 3)), Kind: oneOf(c, 0, 3, 3), Sym: c.upTo(len(l.Syms))})
		}
	}
	l.Global = oneOf(c, 0, len(l.Syms), len(l.Syms), c.upTo(len(l.Syms)))
	return l
}

// made is a file of a name, not often one that is spoilt.
func (c *chance) made(t *testing.T, name string) made {
	t.Helper()
	l := c.lib(oneOf(c, program, c.below(16)*4*size, (64+c.below(64))*8*size))
	m := made{file: file(t, name, l), lib: l}
	for _, r := range l.Rels {
		m.rels = append(m.rels, api.Rel{At: pack.Place(l).Data + r.At, Kind: r.Kind, Sym: r.Sym})
	}
	switch c.below(60) {
	case 0:
		m.file.Data, m.wrong = oneOf(c, "", "\x7fELF", m.file.Data[:51]), api.ErrShort
	case 1:
		m.file.Data, m.wrong = badTable(t, l), api.ErrForm
	case 2:
		m.file.Data, m.wrong = "#!"+m.file.Data[2:], api.ErrMagic
	case 3, 4, 5, 6:
		if i := slices.IndexFunc(l.Rels, isAlone(l)); i >= 0 {
			m.rels[i].At = oneOf(c, 0, program, m.rels[i].At+size*c.below(3), pack.Place(l).Code, c.next())
			m.file.Data = relAt(t, l, i, m.rels[i].At)
		}
	}
	return m
}

// isAlone tells whether a relocation is like no other one of a library, with a symbol that its file has but once.
func isAlone(l api.Lib) func(api.Rel) bool {
	return func(r api.Rel) bool {
		bytes := words(pack.Place(l).Data+r.At, uint32(256*r.Sym+r.Kind))
		return strings.Count(pack.File(l), bytes) == 1
	}
}

// model does what the chapter's sentences say, one by one, out of what files are made of.
type model struct {
	all    []made
	space  api.Space
	names  []string
	mods   []made
	moved  []uint32
	places []api.Places
}

// load is that of one module.
func (m *model) load(name string) api.Errno {
	for _, one := range m.all {
		if one.file.Name != name {
			continue
		}
		if one.wrong != api.OK {
			return one.wrong
		}
		i, e := image.Parse(one.file.Data)
		moved := uint32(0)
		if one.lib.Shared {
			moved, e = image.Room(m.space, i)
		}
		if e == api.OK {
			m.space, e = image.Load(m.space, i, one.file.Data, moved)
		}
		m.names, m.mods, m.moved = append(m.names, name), append(m.mods, one), append(m.moved, moved)
		m.places = append(m.places, pack.Place(one.lib))
		return e
	}
	return api.ErrNone
}

// closure loads a program and all that is needed.
func (m *model) closure(name string) api.Errno {
	waiting := []string{name}
	for len(waiting) > 0 {
		next := waiting[0]
		waiting = waiting[1:]
		if slices.Contains(m.names, next) {
			continue
		}
		if len(m.names) == 8 {
			return api.ErrMany
		}
		if e := m.load(next); e != api.OK {
			return e
		}
		waiting = append(waiting, m.mods[len(m.mods)-1].lib.Needed...)
	}
	return api.OK
}

// at is where a symbol of the module i is, as its file says it.
func (m *model) at(i int, s api.Sym) uint32 {
	switch s.Part {
	case api.PtCode:
		return s.Value + m.places[i].Code + m.moved[i]
	case api.PtData:
		return s.Value + m.places[i].Data + m.moved[i]
	}
	return 0
}

// addresses is those of the module i.
func (m *model) addresses(i int) (all []uint32, ok bool) {
	for _, s := range m.mods[i].lib.Syms {
		if s.Bind == api.SyLocal {
			all = append(all, m.at(i, s))
			continue
		}
		at, found := m.named(s.Name)
		if !found && s.Bind == api.SyGlobal {
			return nil, false
		}
		all = append(all, at)
	}
	return all, true
}

func (m *model) named(name string) (uint32, bool) {
	for i, one := range m.mods {
		for _, s := range one.lib.Syms {
			if s.Name == name && s.Part != api.PtNone && s.Bind != api.SyLocal {
				return m.at(i, s), true
			}
		}
	}
	return 0, false
}

// relocate puts the words of the module i.
func (m *model) relocate(t *testing.T, i int) api.Errno {
	symbols, ok := m.addresses(i)
	if !ok {
		return api.ErrSymbol
	}
	l, moved := m.mods[i].lib, m.moved[i]
	for _, r := range m.mods[i].rels {
		if r.Kind == 0 {
			continue
		}
		at := r.At + moved
		was, isThere := wordAt(m.space.Guest, at)
		if !isThere || at > math.MaxUint32-3 {
			return api.ErrRange
		}
		by := moved
		if r.Sym > 0 {
			by = symbols[r.Sym-1]
		}
		m.space.Guest = laid(t, m.space.Guest, at, words(was+by))
	}
	got := m.places[i].Got + moved + 8
	for range l.Local { // what stands there may have been changed by another one's relocation
		was, _ := wordAt(m.space.Guest, got)
		m.space.Guest = laid(t, m.space.Guest, got, words(was+moved))
		got += 4
	}
	m.space.Guest = laid(t, m.space.Guest, got, words(symbols[len(symbols)-l.Global:]...))
	return api.OK
}

// link is all of it.
func (m *model) link(t *testing.T, name string) (inits []uint32, entry uint32, e api.Errno) {
	if e = m.closure(name); e != api.OK {
		return nil, 0, e
	}
	for i := range m.mods {
		if e = m.relocate(t, i); e != api.OK {
			return nil, 0, e
		}
	}
	for i := len(m.mods) - 1; i >= 0; i-- {
		if n := m.mods[i].lib.Init; n != 0 {
			inits = append(inits, m.places[i].Code+n-1+m.moved[i])
		}
	}
	return inits, m.places[0].Code + m.mods[0].lib.Entry + m.moved[0], api.OK
}

// files is one file of each name and some more, out of order.
func (c *chance) files(t *testing.T) (all []made) {
	for _, n := range "abcdefghijk" {
		if c.below(40) > 0 {
			all = append(all, c.made(t, string(n)))
		}
	}
	for range oneOf(c, 0, 0, 1, 3) {
		all = append(all, c.made(t, c.name()))
	}
	for i := range all {
		j := int(c.below(uint32(i + 1)))
		all[i], all[j] = all[j], all[i]
	}
	return all
}

// P19.2 to P19.5: programs and libraries by chance against the model.
func TestModel(t *testing.T) {
	c := chance(19)
	spaces := []api.Space{{}, sample(t), sample(t), tight(t, 1), tight(t, 4), tight(t, 9)}
	counts, many := map[api.Errno]int{}, map[int]int{}
	for range 1200 {
		all, p := c.files(t), oneOf(&c, spaces...)
		m, name := &model{all: all, space: p}, c.name()
		inits, entry, wrong := m.link(t, name)
		var files []api.File
		for _, one := range all {
			files = append(files, one.file)
		}
		given, givenFiles := cloned(p), slices.Clone(files)
		l, e := Link(p, name, files)
		if e != wrong || e != api.OK && !isZero(l) {
			t.Fatalf("%s of %v: %v, and not %v; nothing beside it: %v", name, m.names, e, wrong, isZero(l))
		}
		if !equal(p, given) || !slices.Equal(files, givenFiles) {
			t.Fatalf("%s of %v: what was given changed", name, m.names)
		}
		counts[e]++
		if e != api.OK {
			continue
		}
		many[len(l.Mods)]++
		if !slices.Equal(mods(l), m.names) || !slices.Equal(l.Inits, inits) || l.Entry != entry || !equal(l.Space, m.space) || !gmap.Fit(l.Space) {
			t.Fatalf("%s of %v: %v, Inits %x, and not %x, Entry %#x, and not %#x, space as it should be: %v", name, m.names, mods(l), l.Inits, inits, l.Entry, entry, equal(l.Space, m.space))
		}
		onceEach(t, "by chance", name, l)
		m.holds(t, l)
	}
	for _, e := range []api.Errno{api.OK, api.ErrNone, api.ErrMany, api.ErrSymbol, api.ErrRange, api.ErrMem, api.ErrFull, api.ErrShort, api.ErrMagic, api.ErrForm, api.ErrInval} {
		if counts[e] < 10 {
			t.Errorf("%v was met but %d times", e, counts[e])
		}
	}
	for n := 1; n <= 8; n++ {
		if many[n] < 5 {
			t.Errorf("%d modules were met but %d times", n, many[n])
		}
	}
}

// holds holds modules to the model's, and Resolve and Symbols of them.
func (m *model) holds(t *testing.T, l api.Linked) {
	t.Helper()
	for i, mod := range l.Mods {
		want, ok := m.addresses(i)
		if got, e := Symbols(l.Mods, mod); e != api.OK || !ok || !slices.Equal(got, want) || mod.Moved != m.moved[i] {
			t.Fatalf("the symbols of %s of %v: %v, %x, and not %x", mod.Name, m.names, e, got, want)
		}
	}
	for n := range 13 {
		name := "f" + string(rune('a'+n))
		want, ok := m.named(name)
		if at, is := Resolve(l.Mods, name); at != want || is != ok {
			t.Fatalf("%s of %v: %#x, %v, and not %#x, %v", name, m.names, at, is, want, ok)
		}
	}
}

// 0.5: what a call tells shares no memory with what it was given, nor with what another call tells.
func TestNothingShared(t *testing.T) {
	main, a := with(fixed(program, "a", "b"), asked("f")), with(needs("b"), there("f", 4))
	main.Init, a.Init, a.Rels = 1, 5, []api.Rel{{Kind: api.RlRel32}}
	files := []api.File{file(t, "main", main), file(t, "a", a), file(t, "b", a)}
	p, full := sample(t), sample(t)
	p.Guest.Pages = append(make([]api.Page, 0, 300), p.Guest.Pages...)
	p.Guest.Host.Maps = append(make([]api.Map, 0, 100), p.Guest.Host.Maps...)
	p.Guest.Host.Cells = append(make([]api.Cell, 0, 9999), p.Guest.Host.Cells...)
	l, _ := Link(p, "main", files)
	other, _ := Link(p, "main", files)
	again, e := Link(full, "main", files)
	if e != api.OK || !equal(p, full) {
		t.Fatalf("%v; what was given changed: %v", e, !equal(p, full))
	}
	symbols, _ := Symbols(l.Mods, l.Mods[0])
	sibling, _ := Symbols(l.Mods, l.Mods[0])
	scribble(p)
	wipe(other)
	clear(sibling[:cap(sibling)])
	if !reflect.DeepEqual(l, again) {
		t.Error("what was told changed with what was given, or with what another call tells")
	}
	wipeModule(l.Mods[1])
	l.Mods[1] = again.Mods[1]
	if !reflect.DeepEqual(l, again) || len(symbols) != 1 || symbols[0] == 0 {
		t.Error("modules of one answer share memory")
	}
	if wiped := l.Mods[0]; !reflect.DeepEqual(wiped, again.Mods[0]) {
		t.Errorf("Symbols changed a module: %v", wiped)
	}
}

// scribble changes all that a space's lists have room for.
func scribble(p api.Space) {
	clear(p.Guest.Pages[:cap(p.Guest.Pages)])
	clear(p.Guest.Host.Maps[:cap(p.Guest.Host.Maps)])
	clear(p.Guest.Host.Cells[:cap(p.Guest.Host.Cells)])
}

// wipeModule changes all that a module's lists have room for.
func wipeModule(m api.Module) {
	clear(m.Image.Elf.Segs[:cap(m.Image.Elf.Segs)])
	clear(m.Dyn.Needed[:cap(m.Dyn.Needed)])
	clear(m.Dyn.Syms[:cap(m.Dyn.Syms)])
	clear(m.Dyn.Rels[:cap(m.Dyn.Rels)])
}

// wipe changes all that a linked one's lists have room for.
func wipe(l api.Linked) {
	scribble(l.Space)
	for _, m := range l.Mods {
		wipeModule(m)
	}
	clear(l.Mods[:cap(l.Mods)])
	clear(l.Inits[:cap(l.Inits)])
}

// 0.1: any modules and any files come to an end.
func TestAnything(t *testing.T) {
	c := chance(191)
	odd := []int{0, 1, -1, 200, math.MinInt, math.MaxInt}
	full := sample(t)
	for range 500 {
		var files []api.File
		for _, one := range c.files(t) {
			s := []byte(one.file.Data)
			for range oneOf(&c, 0, 0, 1, 5) {
				if len(s) > 0 {
					s[c.below(uint32(len(s)))] = byte(c.next())
				}
			}
			files = append(files, api.File{Name: one.file.Name, Data: string(s)})
		}
		p := cloned(full)
		switch c.below(6) {
		case 0:
			p.Guest.Pages = append(p.Guest.Pages, api.Page{N: c.number(), Prot: oneOf(&c, odd...)})
		case 1:
			p.Guest.Host.Maps = append(p.Guest.Host.Maps, api.Map{Page: uint64(c.number()), Prot: oneOf(&c, odd...)})
		case 2:
			p.Guest.Host.Cells = append(p.Guest.Host.Cells, api.Cell{At: uint64(c.number()), Word: uint64(c.number())})
		case 3:
			p.Guest.Base = math.MaxUint64 - uint64(c.number())
		case 4:
			p.Start, p.End = c.number(), c.number()
		}
		if l, e := Link(p, c.name(), files); e != api.OK && !isZero(l) {
			t.Fatalf("%v, and something beside it", e)
		}
	}
}

// 0.1: modules whose Dyn no file tells come to an end, too.
func TestAnyModules(t *testing.T) {
	c := chance(192)
	for range 3000 {
		var l []api.Module
		for range oneOf(&c, 0, 1, 3, 20) {
			var syms []api.Sym
			for range c.upTo(5) {
				s := c.sym()
				s.Name, s.Bind, s.Part = oneOf(&c, s.Name, "", c.bytes(40)), oneOf(&c, s.Bind, -1, 3, math.MaxInt), oneOf(&c, s.Part, -1, 9)
				syms = append(syms, s)
			}
			m := module(c.bytes(c.upTo(3)), c.number(), syms...)
			m.Dyn.Table = oneOf(&c, m.Dyn.Table, module("", 0, c.sym(), c.sym()).Dyn.Table)
			m.Dyn.Syms = oneOf(&c, m.Dyn.Syms, nil, m.Dyn.Syms[:len(m.Dyn.Syms)/2])
			m.Dyn.Table.Hash = oneOf(&c, m.Dyn.Table.Hash, c.bytes(c.upTo(40)))
			m.Dyn.Own, m.Dyn.First = c.upTo(9)-4, c.upTo(9)-4
			l = append(l, m)
		}
		for _, m := range l {
			if all, e := Symbols(l, m); e != api.OK && all != nil || e == api.OK && len(all) != len(m.Dyn.Syms) {
				t.Fatalf("%x, %v", all, e)
			}
		}
		for _, name := range []string{"", "fa", "fb", c.bytes(9)} {
			if at, ok := Resolve(l, name); !ok && at != 0 {
				t.Fatalf("%q: %#x", name, at)
			}
		}
	}
}
