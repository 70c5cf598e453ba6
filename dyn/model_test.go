package dyn

import (
	"encoding/binary"
	"reflect"
	"slices"
	"strings"
	"testing"

	"ferry/api"
	"ferry/image"
	"ferry/names"
	"ferry/pack"
)

// equal tells whether two are the same, and have the same lists that are none.
func equal(a, b api.Dyn) bool { return reflect.DeepEqual(a, b) }

func isZero(d api.Dyn) bool { return equal(d, api.Dyn{}) }

// chance hands out numbers by a simple rule.
type chance uint64

func (c *chance) next() uint32 {
	*c = *c*6364136223846793005 + 1442695040888963407
	return uint32(*c >> 32)
}

func (c *chance) below(n uint32) uint32 { return c.next() % n }

func (c *chance) upTo(n int) int { return int(c.below(uint32(n + 1))) }

func oneOf[T any](c *chance, all ...T) T { return all[c.below(uint32(len(all)))] }

func (c *chance) bytes(n int) string {
	out := make([]byte, n)
	for i := range out {
		out[i] = byte(c.next())
	}
	return string(out)
}

// text is a text of some bytes without a 0.
func (c *chance) text(least int) string {
	return strings.Repeat(oneOf(c, "x", "y", "\xff"), oneOf(c, least, 1, 7, 8, 31, max(least, c.upTo(31))))
}

func (c *chance) number() uint32 { return oneOf(c, 0, c.below(100), c.next(), 1<<32-1-c.below(9)) }

func (c *chance) syms(most int) (l []api.Sym) {
	for range oneOf(c, 0, 1, 2, 3, most, c.upTo(most)) {
		l = append(l, api.Sym{Name: c.text(1), Value: c.number(), Size: c.number(), Bind: c.upTo(2), Part: c.upTo(2)})
	}
	return l
}

// lib is a library that is fit, whose image can be.
func (c *chance) lib() (l api.Lib) {
	l = api.Lib{Shared: c.below(2) == 0, Base: 4096 * oneOf(c, 0, 1, 1024, 1<<18, c.below(1<<18+1)), Entry: c.below(4097), Bss: oneOf(c, 0, 1, 8192, c.below(8193))}
	l.Code, l.Data = c.bytes(4*oneOf(c, 0, 1, 2, 1024, c.upTo(100))), c.bytes(oneOf(c, 0, 1, 4, 8, 4096, c.upTo(300)))
	l.Soname, l.Interp, l.Init = oneOf(c, "", c.text(0)), oneOf(c, "", c.text(0)), oneOf(c, 0, 1, 4096, c.below(4097))
	for range oneOf(c, 0, 0, 1, 2, 8) {
		l.Needed = append(l.Needed, c.text(1))
	}
	l.Syms = c.syms(60)
	for range oneOf(c, 0, 1, 2, 30, c.upTo(30)) {
		l.Local = append(l.Local, c.number())
	}
	if len(l.Data) >= 4 {
		for range oneOf(c, 0, 1, 2, 60, c.upTo(60)) {
			l.Rels = append(l.Rels, api.Rel{At: c.below(uint32(len(l.Data) - 3)), Kind: oneOf(c, 0, 3), Sym: c.upTo(len(l.Syms))})
		}
	}
	l.Global = oneOf(c, 0, len(l.Syms), c.upTo(len(l.Syms)))
	return l
}

// modelOf is the table of a fit library's file, worked out of what it is made of.
func modelOf(l api.Lib) api.Dyn {
	p := pack.Place(l)
	d := api.Dyn{Needed: l.Needed, Soname: l.Soname, Syms: slices.Clone(l.Syms), Got: p.Got, Own: 2 + len(l.Local), First: len(l.Syms) - l.Global + 1}
	for i := range d.Syms {
		switch d.Syms[i].Part {
		case api.PtNone:
			d.Syms[i].Value = 0
		case api.PtCode:
			d.Syms[i].Value += p.Code
		case api.PtData:
			d.Syms[i].Value += p.Data
		}
	}
	d.Table = names.Write(d.Syms, 3)
	for _, name := range append(slices.Clone(l.Needed), l.Soname) {
		d.Table.Strs += name + "\x00"
	}
	for _, r := range l.Rels {
		d.Rels = append(d.Rels, api.Rel{At: p.Data + r.At, Kind: r.Kind, Sym: r.Sym})
	}
	if l.Init != 0 {
		d.Init = p.Code + l.Init - 1
	}
	return d
}

// back holds Parse of a library's file to the library.
func back(t *testing.T, name string, l api.Lib) {
	t.Helper()
	s := pack.File(l)
	m, err := image.Parse(s)
	if err != api.OK {
		t.Fatalf("%s: no image: %v", name, err)
	}
	d, err := Parse(m, s)
	if want := modelOf(l); err != api.OK || !equal(d, want) || !Same(d, want) {
		t.Errorf("%s: %v, %#v, and not %#v", name, err, d, want)
	}
}

// P17.2: there and back, of libraries with and without each of their parts.
func TestThereAndBack(t *testing.T) {
	full := api.Lib{
		Shared: true, Base: 0x10000, Entry: 4, Code: strings.Repeat("\x00", 16), Data: "0123456789ab", Bss: 5,
		Needed: []string{"libc.so", "m", strings.Repeat("n", 31)}, Soname: "me.so", Interp: "/ld",
		Syms: sampleSyms(), Rels: []api.Rel{{At: 8, Kind: api.RlRel32, Sym: 3}, {At: 1}, {At: 4, Kind: api.RlRel32}},
		Local: []uint32{0, 4, 8}, Global: 2, Init: 5,
	}
	back(t, "all of it", full)
	back(t, "nothing", api.Lib{})
	back(t, "nothing, shared", api.Lib{Shared: true})
	for name, change := range map[string]func(*api.Lib){
		"Needed":       func(l *api.Lib) { l.Needed = nil },
		"Soname":       func(l *api.Lib) { l.Soname = "" },
		"Interp":       func(l *api.Lib) { l.Interp = "" },
		"Init":         func(l *api.Lib) { l.Init = 0 },
		"symbols":      func(l *api.Lib) { l.Syms, l.Rels, l.Global = nil, nil, 0 },
		"relocations":  func(l *api.Lib) { l.Rels = nil },
		"Local":        func(l *api.Lib) { l.Local = nil },
		"Global":       func(l *api.Lib) { l.Global = 0 },
		"Code":         func(l *api.Lib) { l.Code = "" },
		"Data":         func(l *api.Lib) { l.Data, l.Rels = "", nil },
		"Bss":          func(l *api.Lib) { l.Bss = 0 },
		"its own Base": func(l *api.Lib) { l.Base = 0 },
	} {
		l := full
		change(&l)
		back(t, "without "+name, l)
	}
	full.Global = 3
	back(t, "all Global", full)
	full.Init = 1
	back(t, "Init at the code's beginning", full)
}

// P17.2: there and back, of libraries by chance.
func TestThereAndBackByChance(t *testing.T) {
	c := chance(172)
	for range 3000 {
		l := c.lib()
		if !pack.Fit(l) {
			t.Fatalf("not fit: %v", l)
		}
		back(t, "by chance", l)
		if t.Failed() {
			return
		}
	}
}

// memory is the bytes of one SgLoad, from At on.
type memory struct {
	at    uint64
	bytes string
}

// memories is all of an image's.
func memories(m api.Image, s string) (all []memory) {
	for _, g := range m.Elf.Segs {
		if g.Kind == api.SgLoad {
			all = append(all, memory{uint64(g.At), s[g.Off:g.Off+g.Size] + strings.Repeat("\x00", int(g.Room-g.Size))})
		}
	}
	return all
}

// some is n bytes from at on.
func some(all []memory, at, n uint32) (string, bool) {
	for _, one := range all {
		first := int64(at) - int64(one.at)
		if first >= 0 && first+int64(n) <= int64(len(one.bytes)) {
			return one.bytes[first : first+int64(n)], true
		}
	}
	return "", false
}

// numbers is the numbers of 4 bytes that bytes are.
func numbers(s string) (all []uint32) {
	for at := 0; at+4 <= len(s); at += 4 {
		all = append(all, binary.BigEndian.Uint32([]byte(s[at:])))
	}
	return all
}

// modelTags is all values of each tag ahead of the first 0.
func modelTags(all []memory, m api.Image) (map[uint32][]uint32, bool) {
	bytes, _ := some(all, m.DynAt, m.DynLen)
	found, n := map[uint32][]uint32{}, numbers(bytes)
	for i := 0; i+1 < len(n); i += 2 {
		if n[i] == 0 {
			return found, true
		}
		found[n[i]] = append(found[n[i]], n[i+1])
	}
	return nil, false
}

// modelName is the name at a place of Strs.
func modelName(strs string, at uint32) (string, bool) {
	for end := uint64(at); end < uint64(len(strs)); end++ {
		if strs[end] == 0 {
			n := end - uint64(at)
			return strs[at:end], n > 0 && n < 32
		}
	}
	return "", false
}

// modelParse asks each of the document's conditions by itself.
func modelParse(m api.Image, s string) (api.Dyn, api.Errno) {
	if m.DynLen == 0 {
		return api.Dyn{}, api.OK
	}
	all := memories(m, s)
	tags, is := modelTags(all, m)
	one := map[uint32]uint32{}
	for _, tag := range []uint32{3, 4, 5, 6, 10, 12, 14, 17, 18, 0x7000000a, 0x70000011, 0x70000013} {
		is = is && len(tags[tag]) < 2
		if len(tags[tag]) > 0 {
			one[tag] = tags[tag][0]
		}
	}
	there := func(tag uint32) int { return len(tags[tag]) }
	n, size, own, first, relSize := one[0x70000011], one[10], one[0x7000000a], one[0x70000013], one[18]
	is = is && there(4)+there(5)+there(6)+there(10)+there(0x70000011) == 5
	is = is && n >= 1 && n <= 201 && size <= 4096
	is = is && there(17) == there(18) && relSize%8 == 0 && relSize <= 480
	is = is && there(3) == there(0x7000000a) && there(3) == there(0x70000013)
	is = is && (there(3) == 0 || own >= 2 && own <= 32 && first >= 1 && first <= n)
	if !is {
		return api.Dyn{}, api.ErrForm
	}

	syms, isSyms := some(all, one[6], 16*n)
	strs, isStrs := some(all, one[5], size)
	ahead, _ := some(all, one[4], 8)
	ways := numbers(ahead + strings.Repeat("\x00", 8))[0]
	hash, isHash := some(all, one[4], 4*(2+ways%65+n))
	is = isSyms && isStrs && isHash && ways >= 1 && ways <= 64 && numbers(hash)[1] == n
	d := api.Dyn{Table: api.Table{Syms: syms, Strs: strs, Hash: hash}, Got: one[3], Own: int(own), First: int(first), Init: one[12]}
	list, err := names.Read(d.Table)
	d.Syms, is = list, is && err == api.OK
	for _, at := range tags[1] {
		name, isName := modelName(strs, at)
		d.Needed, is = append(d.Needed, name), is && isName
	}
	if there(14) > 0 {
		name, isName := modelName(strs, one[14])
		d.Soname, is = name, is && isName
	}
	if there(3) > 0 {
		_, isGot := some(all, one[3], 4*(own+n-first))
		is = is && isGot
	}
	wrongKind := api.OK
	if there(17) > 0 {
		bytes, areRels := some(all, one[17], relSize)
		is = is && areRels
		for r := range slices.Chunk(numbers(bytes), 2) {
			is = is && r[1]>>8 < n
			if r[1]&255 != 0 && r[1]&255 != 3 {
				wrongKind = api.ErrReloc
			}
			d.Rels = append(d.Rels, api.Rel{At: r[0], Kind: int(r[1] & 255), Sym: int(r[1] >> 8)})
		}
	}
	switch {
	case !is:
		return api.Dyn{}, api.ErrForm
	case wrongKind != api.OK:
		return api.Dyn{}, wrongKind
	}
	return d, api.OK
}

// place is one for n bytes: where they are usually, at an edge of a segment, or anywhere.
func (c *chance) place(usual uint32, n int) uint32 {
	if c.below(6) > 0 {
		return usual
	}
	edge := oneOf[uint32](c, base, bytesEnd, second, imageEnd, 0)
	return edge - oneOf(c, 0, uint32(n), uint32(n)) + oneOf[uint32](c, 0, 0, 1, 1<<32-1)
}

// rels is relocations of so many symbols, few of them wrong.
func (c *chance) rels(count int) string {
	var all []row
	for range oneOf(c, 0, 1, 2, 60, c.upTo(60)) {
		all = append(all, row{c.number(), uint32(256*c.upTo(count-1) + oneOf(c, 0, 3))})
	}
	if len(all) > 0 && c.below(3) == 0 {
		all[c.below(uint32(len(all)))][1] = uint32(256*oneOf(c, count-1, count-1, count)) + oneOf(c, 0, 1, 2, 3, 4, c.below(256))
	}
	return rowsOf(all...)
}

// sketch is a table by chance, not far from one that can be.
func (c *chance) sketch() sketch {
	list := c.syms(oneOf(c, 3, 20, 200))
	count := len(list) + 1
	table := names.Write(list, oneOf(c, 1, 3, 64, 1+c.upTo(63)))
	k := sketch{bytes: map[uint32]string{}}
	lay := func(tag, usual uint32, s string) {
		at := c.place(usual, len(s))
		k.rows = append(k.rows, row{tag, at})
		k.bytes[at] = s
	}
	if c.below(3) > 0 {
		for range oneOf(c, 0, 1, 3) {
			k.rows = append(k.rows, row{1, uint32(len(table.Strs))})
			table.Strs += c.text(oneOf(c, 1, 1, 1, 0)) + "\x00"
		}
	}
	if c.below(2) == 0 {
		k.rows = append(k.rows, row{14, uint32(len(table.Strs))})
		table.Strs += c.text(oneOf(c, 1, 1, 1, 0)) + "\x00"
	}
	lay(4, hashAt, table.Hash)
	lay(6, symsAt, table.Syms)
	lay(5, strsAt, table.Strs)
	k.rows = append(k.rows, row{10, uint32(len(table.Strs))}, row{0x70000011, uint32(count)})
	if c.below(3) > 0 {
		s := c.rels(count)
		lay(17, relsAt, s)
		k.rows = append(k.rows, row{18, uint32(len(s))})
	}
	if c.below(3) > 0 {
		own, first := 2+c.upTo(30), 1+c.upTo(count-1)
		k.rows = append(k.rows, row{3, c.place(gotAt, 4*(own+count-first))}, row{0x7000000a, uint32(own)}, row{0x70000013, uint32(first)})
	}
	if c.below(2) == 0 {
		k.rows = append(k.rows, row{12, c.number()})
	}
	k.rows = append(k.rows, row{})
	return k
}

// spoilt is a table of which one thing is otherwise.
func (c *chance) spoilt(k sketch) sketch {
	at := int(c.below(uint32(len(k.rows))))
	one := k.rows[at]
	switch c.below(7) {
	case 0:
		return sketch{slices.Delete(slices.Clone(k.rows), at, at+1), k.bytes}
	case 1:
		return k.more(one)
	case 2:
		return k.more(row{oneOf[uint32](c, 2, 11, 19, 0x70000001, c.next()), c.number()})
	case 3:
		return sketch{append(slices.Clone(k.rows), one), k.bytes}
	case 4:
		return k.with(one[0], one[1]+oneOf[uint32](c, 1, 2, 4, 8, 1<<32-1, 1<<32-2, 1<<32-8))
	case 5:
		return k.with(one[0], c.number())
	}
	for _, where := range []uint32{hashAt, symsAt, strsAt, relsAt} {
		if s := k.bytes[where]; len(s) > 0 && c.below(3) == 0 {
			i := c.below(uint32(len(s)))
			k = k.put(where, s[:i]+string([]byte{s[i] ^ oneOf[byte](c, 1, 2, 4, 255)})+s[i+1:])
		}
	}
	return k
}

// P17.1: tables by chance, many of them spoilt, against the model.
func TestModel(t *testing.T) {
	c := chance(17)
	counts := map[api.Errno]int{}
	for range 20000 {
		k := c.sketch()
		for range oneOf(&c, 0, 0, 1, 2) {
			if len(k.rows) > 1 {
				k = c.spoilt(k)
			}
		}
		s := k.file()
		m, err := image.Parse(s)
		if err != api.OK {
			t.Fatalf("the test's own file is no image: %v", err)
		}
		d, err := Parse(m, s)
		want, wrong := modelParse(m, s)
		if err != wrong || !equal(d, want) {
			t.Fatalf("%x: %#v, %v, and not %#v, %v", k.rows, d, err, want, wrong)
		}
		counts[err]++
	}
	for _, e := range []api.Errno{api.OK, api.ErrForm, api.ErrReloc} {
		if counts[e] < 300 {
			t.Errorf("%v was met but %d times", e, counts[e])
		}
	}
}

// 0.1: any image of any bytes comes to an end.
func TestAnyImage(t *testing.T) {
	c := chance(171)
	for range 20000 {
		k := c.sketch()
		s := k.file()
		m, _ := image.Parse(s)
		s = s[:oneOf(&c, len(s), c.upTo(len(s)))]
		for range oneOf(&c, 0, 1, 2, 3) {
			switch c.below(5) {
			case 0:
				m.DynAt += c.number()
			case 1:
				m.DynLen = c.number()
			case 2:
				m.Elf.Segs = append(slices.Clone(m.Elf.Segs), api.Seg{Kind: api.SgLoad, Off: c.number(), At: c.number(), Size: c.number(), Room: c.next()})
			case 3:
				m.Elf.Segs = slices.Clone(m.Elf.Segs)
				for i := range m.Elf.Segs {
					m.Elf.Segs[i].Size, m.Elf.Segs[i].Off = c.number(), c.number()
				}
			default:
				m.Low, m.High = c.number(), c.number()
			}
		}
		if d, err := Parse(m, s); err != api.OK && !isZero(d) {
			t.Fatalf("%v beside %v", d, err)
		}
	}
}
