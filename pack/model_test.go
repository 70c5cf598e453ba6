package pack

import (
	"encoding/binary"
	"slices"
	"strings"
	"testing"

	"ferry/api"
	"ferry/elf"
	"ferry/gmem"
	"ferry/image"
	"ferry/names"
)

// chance hands out numbers by a simple rule.
type chance uint64

func (c *chance) next() uint32 {
	*c = *c*6364136223846793005 + 1442695040888963407
	return uint32(*c >> 32)
}

func (c *chance) below(n uint32) uint32 { return c.next() % n }

func (c *chance) upTo(n int) int { return int(c.below(uint32(n + 1))) }

func oneOf[T any](c *chance, all ...T) T { return all[c.below(uint32(len(all)))] }

// bytes is so many, any of them.
func (c *chance) bytes(n int) string {
	out := make([]byte, n)
	for i := range out {
		out[i] = byte(c.next())
	}
	return string(out)
}

// text is a text of some bytes without a 0.
func (c *chance) text(least int) string {
	return strings.Repeat(oneOf(c, "x", "y", "\xff"), oneOf(c, least, 1, 7, 8, 31, max(least, c.upTo(31))))
}

func (c *chance) number() uint32 { return oneOf(c, 0, c.below(100), c.next(), 1<<32-1-c.below(9)) }

// lib is a library that is fit, of any lengths; few of its parts are there where they need not be.
func (c *chance) lib() (l api.Lib) {
	l = api.Lib{Shared: c.below(2) == 0, Base: 4096 * oneOf(c, 0, 1, 1024, 1<<18, c.below(1<<18+1)), Entry: oneOf(c, 0, 4, c.below(4097)), Bss: oneOf(c, 0, 1, 8192, c.below(8193))}
	l.Code, l.Data = c.bytes(4*oneOf(c, 0, 1, 2, 1024, c.upTo(100))), c.bytes(oneOf(c, 0, 1, 4, 8, 4096, c.upTo(300)))
	l.Soname, l.Interp, l.Init = oneOf(c, "", c.text(0)), oneOf(c, "", c.text(0)), oneOf(c, 0, 1, c.below(4097))
	for range oneOf(c, 0, 0, 1, 2, 8) {
		l.Needed = append(l.Needed, c.text(1))
	}
	for range oneOf(c, 0, 1, 2, 3, 60, c.upTo(60)) {
		l.Syms = append(l.Syms, api.Sym{Name: c.text(1), Value: c.number(), Size: c.number(), Bind: c.upTo(2), Part: c.upTo(2)})
	}
	for range oneOf(c, 0, 1, 2, 30, c.upTo(30)) {
		l.Local = append(l.Local, c.number())
	}
	if len(l.Data) >= 4 {
		for range oneOf(c, 0, 1, 2, 60, c.upTo(60)) {
			l.Rels = append(l.Rels, api.Rel{At: c.below(uint32(len(l.Data) - 3)), Kind: oneOf(c, 0, 3), Sym: c.upTo(len(l.Syms))})
		}
	}
	l.Global = oneOf(c, 0, len(l.Syms), c.upTo(len(l.Syms)))
	return l
}

// spoilt is a library of which one thing is not fit.
func (c *chance) spoilt(l api.Lib) api.Lib {
	switch c.below(14) {
	case 0:
		l.Base += 1 + c.below(4095)
	case 1:
		l.Base = 1<<30 + 4096*(1+c.below(1000))
	case 2:
		l.Code += strings.Repeat("c", 1+c.upTo(2))
	case 3:
		l.Code = strings.Repeat("c", 4100)
	case 4:
		l.Data = strings.Repeat("d", 4097+c.upTo(9))
	case 5:
		l.Bss = 8193 + c.below(1<<31)
	case 6:
		l.Needed = append(slices.Clone(l.Needed), oneOf(c, "", "\x00", strings.Repeat("n", 32)))
	case 7:
		l.Soname = oneOf(c, "x\x00", strings.Repeat("n", 32))
	case 8:
		l.Interp = oneOf(c, "x\x00", strings.Repeat("n", 32))
	case 9:
		l.Syms = append(slices.Clone(l.Syms), oneOf(c, api.Sym{}, api.Sym{Name: "x", Bind: 3}, api.Sym{Name: "x", Part: -1}))
	case 10:
		l.Rels = append(slices.Clone(l.Rels), oneOf(c, api.Rel{Kind: 1}, api.Rel{Sym: len(l.Syms) + 1}, api.Rel{Sym: -1}, api.Rel{At: uint32(len(l.Data) - 3)}))
	case 11:
		l.Local = make([]uint32, 31)
	case 12:
		l.Global = oneOf(c, -1, len(l.Syms)+1)
	default:
		l.Entry, l.Init = 4097, oneOf[uint32](c, 0, 4097)
	}
	return l
}

// up is a number up to a multiple of 8.
func up(n int) int { return (n + 7) / 8 * 8 }

// modelPlaces is where a fit library's parts begin in its file, by the lengths that the document tells, and where it ends.
func modelPlaces(l api.Lib) (tags, hash, syms, strs, strsEnd, rels, code, got, data, end int) {
	at, entries := 52+3*32, 13+len(l.Needed)
	if l.Interp != "" {
		at = up(at+32) + len(l.Interp) + 1
	}
	if l.Soname != "" {
		entries++
	}
	if l.Init != 0 {
		entries++
	}
	tags = up(at)
	hash = tags + 8*entries
	syms = up(hash + 4*(2+3+1+len(l.Syms)))
	strs = syms + 16 + 16*len(l.Syms)
	strsEnd = strs + 1 + len(l.Soname) + 1
	for _, name := range l.Needed {
		strsEnd += len(name) + 1
	}
	for _, s := range l.Syms {
		strsEnd += len(s.Name) + 1
	}
	rels = up(strsEnd)
	code = rels + 8*len(l.Rels)
	got = up(code + len(l.Code))
	data = up(got + 4*(2+len(l.Local)+l.Global))
	end = data + len(l.Data)
	return
}

// model is a fit library's places and file, each number laid into room of its own.
func model(l api.Lib) (api.Places, string) {
	tags, hash, syms, strs, strsEnd, rels, code, got, data, end := modelPlaces(l)
	base := int(l.Base)
	p := api.Places{Code: uint32(base + code), Got: uint32(base + got + 4096), Data: uint32(base + data + 4096), End: uint32(base + end + 4096 + int(l.Bss))}
	file := make([]byte, end)
	word := func(at int, v uint32) { binary.BigEndian.PutUint32(file[at:], v) }
	address := func(s api.Sym) uint32 { return [3]uint32{0, p.Code + s.Value, p.Data + s.Value}[s.Part] }

	segs := []api.Seg{
		{Kind: 1, At: l.Base, Size: uint32(code + len(l.Code)), Room: uint32(code + len(l.Code)), Prot: 5, Align: 4096},
		{Kind: 1, Off: uint32(got), At: p.Got, Size: uint32(end - got), Room: uint32(end-got) + l.Bss, Prot: 3, Align: 4096},
		{Kind: 2, Off: uint32(tags), At: uint32(base + tags), Size: uint32(hash - tags), Room: uint32(hash - tags), Prot: 3, Align: 4},
	}
	if n := uint32(len(l.Interp) + 1); n > 1 {
		at := up(52 + 4*32)
		segs = append(segs, api.Seg{Kind: 3, Off: uint32(at), At: uint32(base + at), Size: n, Room: n, Prot: 1, Align: 1})
		copy(file[at:], l.Interp)
	}
	copy(file, elf.Write(api.Elf{Shared: l.Shared, Entry: p.Code + l.Entry, Segs: segs}))

	list := slices.Clone(l.Syms)
	for i := range list {
		list[i].Value = address(list[i])
	}
	table := names.Write(list, 3)
	copy(file[hash:], table.Hash)
	copy(file[syms:], table.Syms)
	copy(file[strs:], table.Strs)

	at, stands := tags, strs+len(table.Strs)
	tag := func(k uint32, v int) { word(at, k); word(at+4, uint32(v)); at += 8 }
	for _, name := range l.Needed {
		tag(1, stands-strs)
		stands += copy(file[stands:], name) + 1
	}
	if l.Soname != "" {
		tag(14, stands-strs)
		copy(file[stands:], l.Soname)
	}
	tag(4, base+hash)
	tag(5, base+strs)
	tag(6, base+syms)
	tag(17, base+rels)
	tag(10, strsEnd-strs)
	tag(18, 8*len(l.Rels))
	tag(11, 16)
	tag(19, 8)
	if l.Init != 0 {
		tag(12, int(p.Code+l.Init)-1)
	}
	tag(3, int(p.Got))
	tag(0x7000000a, 2+len(l.Local))
	tag(0x70000011, len(l.Syms)+1)
	tag(0x70000013, len(l.Syms)+1-l.Global)

	for i, r := range l.Rels {
		word(rels+8*i, p.Data+r.At)
		word(rels+8*i+4, uint32(r.Sym)<<8|uint32(r.Kind))
	}
	copy(file[code:], l.Code)
	word(got+4, 0x80000000)
	for i, v := range l.Local {
		word(got+8+4*i, p.Code+v)
	}
	for i := range l.Global {
		word(got+8+4*len(l.Local)+4*i, address(l.Syms[len(l.Syms)-l.Global+i]))
	}
	copy(file[data:], l.Data)
	return p, string(file)
}

// P16.1 and P16.2: libraries by chance, and what is not fit of them, against the model.
func TestModel(t *testing.T) {
	c := chance(16)
	for range 3000 {
		l := c.lib()
		if !Fit(l) {
			t.Fatalf("not fit: %v", l)
		}
		places, file := model(l)
		if got := Place(l); got != places {
			t.Fatalf("Place of %v is %v, and not %v", l, got, places)
		}
		if got := File(l); got != file {
			t.Fatalf("File of %v is %q, and not %q", l, got, file)
		}
		if l = c.spoilt(l); Fit(l) || Place(l) != (api.Places{}) || File(l) != "" {
			t.Fatalf("fit, or with places or a file: %v", l)
		}
	}
}

// P16.3: the header of a file by chance is parsed, its segments lie within the file, and all parts stand in the file and in memory where Place says.
func TestModelParse(t *testing.T) {
	c := chance(163)
	for range 300 {
		l := c.lib()
		if l.Base == 0 {
			l.Base = 4096 // nothing is loaded below that
		}
		file, p := File(l), Place(l)
		e, err := elf.Parse(file)
		if err != api.OK || e.Shared != l.Shared || e.Entry != p.Code+l.Entry {
			t.Fatalf("Parse of File of %v: %v, %v", l, e, err)
		}
		for _, s := range e.Segs {
			if int(s.Off)+int(s.Size) > len(file) {
				t.Fatalf("a segment out of %d bytes: %v", len(file), s)
			}
		}
		code, got := file[p.Code-l.Base:], file[p.Got-l.Base-4096:]
		data := file[p.Data-l.Base-4096:]
		if !strings.HasPrefix(code, l.Code) || !strings.HasPrefix(got, "\x00\x00\x00\x00\x80\x00\x00\x00") || data != l.Data {
			t.Fatalf("other parts in File of %v", l)
		}
		m, err := image.Parse(file)
		if err != api.OK || m.Low != l.Base || m.High != uint32(up4096(p.End)) || m.Interp != l.Interp {
			t.Fatalf("the image of %v: %v, %v", l, m, err)
		}
		space, err := image.Load(api.Space{}, m, file, 0)
		if err != api.OK {
			t.Fatalf("Load of %v: %v", l, err)
		}
		for at, want := range map[uint32]string{p.Code: l.Code, p.Got: got[:8], p.Data: l.Data + strings.Repeat("\x00", int(l.Bss))} {
			if found, f := gmem.Bytes(space.Guest, at, uint32(len(want))); len(want) > 0 && (found != want || f.Kind != api.FtNone) {
				t.Fatalf("at %#x of %v: %q, %v, and not %q", at, l, found, f, want)
			}
		}
	}
}

// up4096 is a number up to a multiple of a page.
func up4096(n uint32) uint64 { return (uint64(n) + 4095) / 4096 * 4096 }
