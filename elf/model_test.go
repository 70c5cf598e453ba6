package elf

import (
	"encoding/binary"
	"strings"
	"testing"

	"ferry/api"
)

// chance hands out numbers by a simple rule.
type chance uint64

func (c *chance) next() uint32 {
	*c = *c*6364136223846793005 + 1442695040888963407
	return uint32(*c >> 32)
}

func (c *chance) below(n uint32) uint32 { return c.next() % n }

func oneOf[T any](c *chance, all ...T) T { return all[c.below(uint32(len(all)))] }

// number is one near an edge, or any.
func (c *chance) number() uint32 {
	return oneOf(c, c.below(600), c.below(600), c.below(600), 4096*c.below(4), 0xffffffff-c.below(3), c.next())
}

func (c *chance) segment() api.Seg {
	s := api.Seg{Kind: int(1 + c.below(3)), Off: c.below(600), At: 4096 * c.below(9), Size: c.below(100), Prot: int(c.below(8)), Align: 4096}
	s.At, s.Room = s.At+s.Off%4096, s.Size+c.below(10)
	if c.below(8) == 0 {
		s.Align = c.number()
	}
	if c.below(20) == 0 {
		s.At, s.Room = c.number(), c.number()
	}
	if c.below(20) == 0 {
		s.Off, s.Size = c.number(), c.number()
	}
	if c.below(40) == 0 {
		s.Kind = int(c.below(6)) - 1
	}
	if c.below(40) == 0 {
		s.Prot = int(c.below(12)) - 2
	}
	return s
}

func (c *chance) header() (e api.Elf) {
	e.Shared, e.Entry = c.below(2) == 0, c.number()
	for range oneOf(c, 0, 1, 2, 3, 15, 16, 17, int(c.below(16))) {
		e.Segs = append(e.Segs, c.segment())
	}
	return e
}

// modelFit says the document's sentence in numbers of any size.
func modelFit(e api.Elf) bool {
	fit := len(e.Segs) < 17
	for _, s := range e.Segs {
		off, at, size, room := int64(s.Off), int64(s.At), int64(s.Size), int64(s.Room)
		fit = fit && (s.Kind == 1 || s.Kind == 2 || s.Kind == 3)
		fit = fit && 0 <= s.Prot && s.Prot <= 7 && size <= room && off+size < 1<<32 && at+room < 1<<32
		fit = fit && s.Align <= 4096 && (s.Kind != 1 || s.Align == 4096 && (off-at)%4096 == 0)
	}
	return fit
}

// mirror has flags for what may be done, and the other way about.
var mirror = [8]uint32{0, 4, 2, 6, 1, 5, 3, 7}

// modelBytes lays a header's numbers into room of its own.
func modelBytes(e api.Elf) string {
	out := make([]byte, 52+32*len(e.Segs))
	copy(out, "\x7fELF\x01\x02\x01")
	half := func(at int, v int) { binary.BigEndian.PutUint16(out[at:], uint16(v)) }
	word := func(at int, v uint32) { binary.BigEndian.PutUint32(out[at:], v) }
	half(16, 2)
	if e.Shared {
		half(16, 3)
	}
	half(18, 8)
	word(20, 1)
	word(24, e.Entry)
	word(28, 52)
	word(36, 0x70001000)
	half(40, 52)
	half(42, 32)
	half(44, len(e.Segs))
	for i, s := range e.Segs {
		for j, v := range []uint32{uint32(s.Kind), s.Off, s.At, s.At, s.Size, s.Room, mirror[s.Prot&7], s.Align} {
			word(52+32*i+4*j, v)
		}
	}
	return string(out)
}

// modelParse asks each of the document's errors by itself, in its order.
func modelParse(s string) (api.Elf, api.Errno) {
	if len(s) < 52 {
		return api.Elf{}, api.ErrShort
	}
	word := func(at int) uint32 { return binary.BigEndian.Uint32([]byte(s[at:])) }
	plain := modelBytes(api.Elf{})
	if s[:16] != plain[:16] {
		return api.Elf{}, api.ErrMagic
	}
	e, n := api.Elf{Shared: s[17] == 3, Entry: word(24)}, int(word(44)>>16)
	if s[16] != 0 || s[17] != 2 && s[17] != 3 || s[18:24] != plain[18:24] || s[28:44] != plain[28:44] || s[46:52] != plain[46:52] || n > 16 {
		return api.Elf{}, api.ErrForm
	}
	if len(s) < 52+32*n {
		return api.Elf{}, api.ErrShort
	}
	wrong := false
	for at := 52; at < 52+32*n; at += 32 {
		wrong = wrong || word(at+8) != word(at+12) || word(at+24) > 7
		e.Segs = append(e.Segs, api.Seg{Kind: int(word(at)), Off: word(at + 4), At: word(at + 8), Size: word(at + 16), Room: word(at + 20), Prot: int(mirror[word(at+24)&7]), Align: word(at + 28)})
	}
	if wrong || !modelFit(e) {
		return api.Elf{}, api.ErrForm
	}
	for _, g := range e.Segs {
		if int64(g.Off)+int64(g.Size) > int64(len(s)) {
			return api.Elf{}, api.ErrRange
		}
	}
	return e, api.OK
}

// spoil changes some of a file's bytes, or its length.
func (c *chance) spoil(s string) string {
	for range oneOf(c, 0, 0, 1, 2) {
		out := []byte(s)
		out[c.below(uint32(len(out)))] = oneOf(c, byte(c.next()), byte(c.below(9)))
		s = string(out)
	}
	return oneOf(c, s, s, s, s, s[:c.below(uint32(len(s)))])
}

// P13.1, P13.2, P13.3 and P13.4: headers and files by chance, against the model.
func TestModel(t *testing.T) {
	c, counts := chance(13), map[api.Errno]int{}
	for range 40000 {
		e := c.header()
		if got, want := Fit(e), modelFit(e); got != want {
			t.Fatalf("Fit(%v) is %v", e, got)
		}
		want := ""
		if modelFit(e) {
			want = modelBytes(e)
		}
		if got := Write(e); got != want {
			t.Fatalf("Write(%v) is %q", e, got)
		}
		file := c.spoil(modelBytes(e) + strings.Repeat("x", int(c.below(700))))
		told, err := Parse(file)
		model, wrong := modelParse(file)
		if err != wrong || !Same(told, model) {
			t.Fatalf("Parse(%q) is %v, %v, and not %v, %v", file, told, err, model, wrong)
		}
		if err == api.OK && (!Fit(told) || !strings.HasPrefix(file, Write(told))) {
			t.Fatalf("Parse(%q) is not fit, or not the file's: %v", file, told)
		}
		counts[err]++
	}
	for _, e := range []api.Errno{api.OK, api.ErrShort, api.ErrMagic, api.ErrForm, api.ErrRange} {
		if counts[e] < 100 {
			t.Errorf("%v was met but %d times", e, counts[e])
		}
	}
}

// 0.1: Parse of any bytes ends, and tells what the model does.
func TestAnyBytes(t *testing.T) {
	c := chance(131)
	for range 20000 {
		out := make([]byte, c.below(120))
		for i := range out {
			out[i] = oneOf(&c, byte(c.next()), 0)
		}
		s := oneOf(&c, "", magic, sampleBytes[:40]) + string(out)
		told, err := Parse(s)
		if model, wrong := modelParse(s); err != wrong || !Same(told, model) {
			t.Fatalf("Parse(%q) is %v, %v, and not %v", s, told, err, wrong)
		}
	}
}
