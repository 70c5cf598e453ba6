package link

import (
	"encoding/binary"
	"reflect"
	"slices"
	"strings"
	"testing"

	"ferry/api"
	"ferry/gmap"
	"ferry/gmem"
	"ferry/guest"
	"ferry/host"
	"ferry/names"
	"ferry/pack"
)

const (
	size     = 4096
	hostSize = 16384
	whole    = 1 << 32 // bytes of the guest's reach
	program  = 0x400000
)

// words is numbers of 4 bytes, the highest byte first.
func words(all ...uint32) string {
	var out []byte
	for _, v := range all {
		out = binary.BigEndian.AppendUint32(out, v)
	}
	return string(out)
}

// there is a global symbol of the code.
func there(name string, value uint32) api.Sym {
	return api.Sym{Name: name, Value: value, Bind: api.SyGlobal, Part: api.PtCode}
}

// asked is a global symbol that another module has to have.
func asked(name string) api.Sym { return api.Sym{Name: name, Bind: api.SyGlobal} }

// weak is a symbol that another module may have.
func weak(name string) api.Sym { return api.Sym{Name: name, Bind: api.SyWeak} }

// local is a symbol that is a module's own.
func local(name string, value uint32, part int) api.Sym {
	return api.Sym{Name: name, Value: value, Bind: api.SyLocal, Part: part}
}

// module is one with symbols.
func module(name string, moved uint32, syms ...api.Sym) api.Module {
	return api.Module{Name: name, Moved: moved, Dyn: api.Dyn{Table: names.Write(syms, 3), Syms: syms}}
}

// needs is a shared library that needs others.
func needs(all ...string) api.Lib {
	return api.Lib{Shared: true, Base: size, Code: strings.Repeat("\x00", 16), Data: words(1, 2, 3), Needed: all}
}

// fixed is a library at a place of its own.
func fixed(base uint32, all ...string) api.Lib {
	l := needs(all...)
	l.Shared, l.Base = false, base
	return l
}

// with is a library with symbols, all of which have places.
func with(l api.Lib, syms ...api.Sym) api.Lib {
	l.Syms, l.Global = syms, len(syms)
	return l
}

// file is a library's by a name.
func file(t *testing.T, name string, l api.Lib) api.File {
	t.Helper()
	s := pack.File(l)
	if s == "" {
		t.Fatalf("the test's own library is not fit: %v", l)
	}
	return api.File{Name: name, Data: s}
}

// relAt is a library's file whose relocation i is for another address.
func relAt(t *testing.T, l api.Lib, i int, at uint32) string {
	t.Helper()
	s, behind := pack.File(l), words(uint32(256*l.Rels[i].Sym+l.Rels[i].Kind))
	was := words(pack.Place(l).Data+l.Rels[i].At) + behind
	if strings.Count(s, was) != 1 {
		t.Fatalf("the relocation %d stands %d times in the file of %v", i, strings.Count(s, was), l)
	}
	return strings.Replace(s, was, words(at)+behind, 1)
}

// sample is a space with pages of which not all may be done, one of them below Top, with a heap, and with bytes out of the guest's reach.
func sample(t *testing.T) api.Space {
	t.Helper()
	p := api.Space{Guest: api.Guest{Base: whole, Host: api.Host{Maps: []api.Map{{Page: whole/hostSize - 1, Prot: 3}, {Page: 2 * whole / hostSize, Prot: 3}}}}, Start: 0x500000, End: 0x500000}
	for _, at := range []uint64{whole - 8, 2 * whole} {
		h, f := host.Store(p.Guest.Host, at, 8, 0x0123456789abcdef)
		if f.Kind != api.FtNone {
			t.Fatalf("host.Store at %#x: %v", at, f)
		}
		p.Guest.Host = h
	}
	for i, at := range []uint32{0x100000, 0x101000, program - size, program + 8*size, api.Top - size} {
		p = paged(t, p, at, i%4*2)
	}
	p, end := gmap.Brk(p, 0x500123)
	if end != 0x500123 {
		t.Fatalf("gmap.Brk: %#x", end)
	}
	p.Guest = laid(t, p.Guest, 0x500000, counted(5))
	return p
}

// paged is a space with a page more, whose bytes are not 0.
func paged(t *testing.T, p api.Space, at uint32, prot int) api.Space {
	t.Helper()
	p, _, e := gmap.Mmap(p, at, size, prot, true)
	if e != api.OK {
		t.Fatalf("gmap.Mmap of %#x: %v", at, e)
	}
	p.Guest = laid(t, p.Guest, at, counted(at/size))
	return p
}

// crowded has so many pages of the host mapped out of the guest's reach that just some are left.
func crowded(p api.Space, left int) api.Space {
	p = cloned(p)
	next := (p.Guest.Base+whole)/hostSize + 9
	for i := range 64 - left - len(p.Guest.Host.Maps) {
		p.Guest.Host.Maps = append(p.Guest.Host.Maps, api.Map{Page: next + uint64(i), Prot: 1})
	}
	return p
}

// counted is a page of bytes of which none is as its neighbours are.
func counted(seed uint32) string {
	out := make([]byte, size)
	for i := range out {
		out[i] = byte(int(seed)*11 + i*37 + i>>8 + 1)
	}
	return string(out)
}

func laid(t *testing.T, g api.Guest, a uint32, s string) api.Guest {
	t.Helper()
	g, f := gmem.Poke(g, a, s)
	if f.Kind != api.FtNone {
		t.Fatalf("gmem.Poke at %#x: %v", a, f)
	}
	return g
}

// byteAt is a byte as the host has it; false: its page is not there.
func byteAt(g api.Guest, a uint32) (byte, bool) {
	if !slices.ContainsFunc(g.Pages, func(p api.Page) bool { return p.N == a/size }) {
		return 0, false
	}
	v, f := host.Load(g.Host, guest.Place(g, a), 1)
	return byte(v), f.Kind == api.FtNone
}

// wordAt is a word, the highest byte first; false: one of its bytes is not there.
func wordAt(g api.Guest, a uint32) (word uint32, isThere bool) {
	isThere = true
	for i := range uint32(4) {
		b, ok := byteAt(g, a+i)
		word, isThere = word<<8|uint32(b), isThere && ok
	}
	return word, isThere
}

func cloned(p api.Space) api.Space {
	p.Guest.Pages = slices.Clone(p.Guest.Pages)
	p.Guest.Host = api.Host{Maps: slices.Clone(p.Guest.Host.Maps), Cells: slices.Clone(p.Guest.Host.Cells)}
	return p
}

func equal(a, b api.Space) bool {
	return a.Start == b.Start && a.End == b.End && a.Guest.Base == b.Guest.Base && slices.Equal(a.Guest.Pages, b.Guest.Pages) &&
		slices.Equal(a.Guest.Host.Maps, b.Guest.Host.Maps) && slices.Equal(a.Guest.Host.Cells, b.Guest.Host.Cells)
}

func isZero(l api.Linked) bool { return reflect.DeepEqual(l, api.Linked{}) }

// mods is the names of what was linked, in order.
func mods(l api.Linked) (all []string) {
	for _, m := range l.Mods {
		all = append(all, m.Name)
	}
	return all
}

// fails holds Link to an error, with nothing beside it, and with a space that is as it was.
func fails(t *testing.T, what string, p api.Space, name string, files []api.File, want api.Errno) {
	t.Helper()
	given := cloned(p)
	if l, e := Link(p, name, files); e != want || !isZero(l) {
		t.Errorf("%s: %v, and not %v; nothing beside it: %v", what, e, want, isZero(l))
	}
	if !equal(p, given) {
		t.Errorf("%s: what was given changed", what)
	}
}

// links holds Link to modules, and to what follows of the promises.
func links(t *testing.T, what string, p api.Space, name string, files []api.File, want ...string) api.Linked {
	t.Helper()
	given, givenFiles := cloned(p), slices.Clone(files)
	l, e := Link(p, name, files)
	if e != api.OK || !slices.Equal(mods(l), want) || !gmap.Fit(l.Space) {
		t.Fatalf("%s: %v, %v, and not %v; fit: %v", what, e, mods(l), want, gmap.Fit(l.Space))
	}
	if !equal(p, given) || !slices.Equal(files, givenFiles) {
		t.Errorf("%s: what was given changed", what)
	}
	onceEach(t, what, name, l)
	inPlace(t, what, l)
	stays(t, what, p, l)
	return l
}

// onceEach holds what was linked to P19.3.
func onceEach(t *testing.T, what, name string, l api.Linked) {
	t.Helper()
	all := mods(l)
	if all[0] != name || len(slices.Compact(slices.Sorted(slices.Values(all)))) != len(all) {
		t.Errorf("%s: modules %v of %s", what, all, name)
	}
	for _, m := range l.Mods {
		for _, n := range m.Dyn.Needed {
			if !slices.Contains(all, n) {
				t.Errorf("%s: %s needs %s, which is none of %v", what, m.Name, n, all)
			}
		}
	}
}

// addressOf is a symbol's of a module, of what was linked.
func addressOf(l api.Linked, m api.Module, s api.Sym) uint32 {
	if s.Bind == api.SyLocal && s.Part == api.PtNone {
		return 0
	}
	if s.Bind == api.SyLocal {
		return s.Value + m.Moved
	}
	for _, other := range l.Mods {
		for _, o := range other.Dyn.Syms {
			if o.Name == s.Name && o.Bind != api.SyLocal && o.Part != api.PtNone {
				return o.Value + other.Moved
			}
		}
	}
	return 0
}

// inPlace holds each place of a symbol in a module's table to the symbol's address (P19.4, P19.5).
func inPlace(t *testing.T, what string, l api.Linked) {
	t.Helper()
	for _, m := range l.Mods {
		if m.Dyn.Own == 0 {
			continue
		}
		at := m.Dyn.Got + m.Moved + 4*uint32(m.Dyn.Own)
		for i, s := range m.Dyn.Syms[m.Dyn.First-1:] {
			v, ok := wordAt(l.Space.Guest, at+4*uint32(i))
			if want := addressOf(l, m, s); !ok || v != want {
				t.Errorf("%s: the place of %s in %s is %#x, and not %#x", what, s.Name, m.Name, v, want)
			}
		}
	}
}

// stays holds what was linked to the space that was there (P19.5): without the modules' pages it is as it was.
func stays(t *testing.T, what string, p api.Space, l api.Linked) {
	t.Helper()
	rest := l.Space
	for _, m := range l.Mods {
		for _, g := range m.Image.Elf.Segs {
			if g.Kind != api.SgLoad {
				continue
			}
			from, last := (g.At+m.Moved)/size, (g.At+m.Moved+g.Room-1)/size
			now, e := guest.Unmap(rest.Guest, from, last-from+1)
			if rest.Guest = now; e != api.OK {
				t.Errorf("%s: guest.Unmap of %#x: %v", what, from, e)
			}
		}
	}
	if !equal(rest, p) {
		t.Errorf("%s: what was mapped has changed: %v, and not %v", what, rest.Guest.Pages, p.Guest.Pages)
	}
}
