package elf

import (
	"slices"
	"strings"
	"testing"

	"ferry/api"
)

// sample is a fit header with a segment of each kind.
func sample() api.Elf {
	return api.Elf{Shared: true, Entry: 0x00400120, Segs: []api.Seg{
		{Kind: api.SgInterp, Off: 148, At: 0x00400094, Size: 13, Room: 13, Prot: api.PrRead, Align: 1},
		{Kind: api.SgLoad, Off: 0, At: 0x00400000, Size: 200, Room: 300, Prot: api.PrRead | api.PrExec, Align: 4096},
		{Kind: api.SgDyn, Off: 164, At: 0x004000a4, Size: 32, Room: 32, Prot: api.PrRead | api.PrWrite, Align: 4},
	}}
}

// sampleBytes is what the document says of sample, byte by byte.
const sampleBytes = "\x7f\x45\x4c\x46\x01\x02\x01\x00\x00\x00\x00\x00\x00\x00\x00\x00" +
	"\x00\x03\x00\x08\x00\x00\x00\x01\x00\x40\x01\x20\x00\x00\x00\x34\x00\x00\x00\x00\x70\x00\x10\x00" +
	"\x00\x34\x00\x20\x00\x03\x00\x00\x00\x00\x00\x00" +
	"\x00\x00\x00\x03\x00\x00\x00\x94\x00\x40\x00\x94\x00\x40\x00\x94\x00\x00\x00\x0d\x00\x00\x00\x0d\x00\x00\x00\x04\x00\x00\x00\x01" +
	"\x00\x00\x00\x01\x00\x00\x00\x00\x00\x40\x00\x00\x00\x40\x00\x00\x00\x00\x00\xc8\x00\x00\x01\x2c\x00\x00\x00\x05\x00\x00\x10\x00" +
	"\x00\x00\x00\x02\x00\x00\x00\xa4\x00\x40\x00\xa4\x00\x40\x00\xa4\x00\x00\x00\x20\x00\x00\x00\x20\x00\x00\x00\x06\x00\x00\x00\x04"

// sampleFile is a file with that header, just as long as its segments need.
func sampleFile() string { return sampleBytes + strings.Repeat("x", 200-len(sampleBytes)) }

func load(change func(*api.Seg)) api.Elf {
	s := api.Seg{Kind: api.SgLoad, Off: 4096, At: 8192, Size: 10, Room: 20, Prot: 5, Align: 4096}
	change(&s)
	return api.Elf{Entry: 4096, Segs: []api.Seg{s}}
}

func dyn(change func(*api.Seg)) api.Elf {
	s := api.Seg{Kind: api.SgDyn, Off: 100, At: 8193, Size: 10, Room: 20, Prot: 5, Align: 4}
	change(&s)
	return api.Elf{Entry: 4096, Segs: []api.Seg{s}}
}

func many(n int) api.Elf {
	e := load(func(*api.Seg) {})
	return api.Elf{Segs: slices.Repeat(e.Segs, n)}
}

// cases is headers and whether they are fit, by the edges that the chapter names.
func cases() []struct {
	name string
	e    api.Elf
	fit  bool
} {
	return []struct {
		name string
		e    api.Elf
		fit  bool
	}{
		{"nothing", api.Elf{}, true},
		{"an empty list", api.Elf{Segs: []api.Seg{}}, true},
		{"Entry at the end", api.Elf{Entry: 0xffffffff}, true},
		{"sample", sample(), true},
		{"1 segment", many(1), true},
		{"16 segments", many(16), true},
		{"17 segments", many(17), false},
		{"kind 0", load(func(s *api.Seg) { s.Kind = 0 }), false},
		{"kind -1", load(func(s *api.Seg) { s.Kind = -1 }), false},
		{"kind 4", load(func(s *api.Seg) { s.Kind = 4 }), false},
		{"kind 2^32 + 1", load(func(s *api.Seg) { s.Kind = 1<<32 + 1 }), false},
		{"SgInterp", dyn(func(s *api.Seg) { s.Kind = api.SgInterp }), true},
		{"Prot -1", load(func(s *api.Seg) { s.Prot = -1 }), false},
		{"Prot 0", load(func(s *api.Seg) { s.Prot = 0 }), true},
		{"Prot 7", load(func(s *api.Seg) { s.Prot = 7 }), true},
		{"Prot 8", load(func(s *api.Seg) { s.Prot = 8 }), false},
		{"Prot 8 of SgDyn", dyn(func(s *api.Seg) { s.Prot = 8 }), false},
		{"Size is Room", load(func(s *api.Seg) { s.Size = 20 }), true},
		{"Size above Room", load(func(s *api.Seg) { s.Size = 21 }), false},
		{"Size above Room of SgDyn", dyn(func(s *api.Seg) { s.Size = 21 }), false},
		{"no bytes", load(func(s *api.Seg) { s.Size, s.Room = 0, 0 }), true},
		{"Off and Size are 2^32 - 1", load(func(s *api.Seg) { s.Off, s.Size, s.Room = 0xfffff000, 4095, 4095 }), true},
		{"Off and Size are 2^32", load(func(s *api.Seg) { s.Off, s.Size, s.Room = 0xfffff000, 4096, 4096 }), false},
		{"Off and Size of SgDyn are 2^32 - 1", dyn(func(s *api.Seg) { s.Off = 0xfffffff5 }), true},
		{"Off and Size of SgDyn are 2^32", dyn(func(s *api.Seg) { s.Off = 0xfffffff6 }), false},
		{"Off and Room are above 2^32", dyn(func(s *api.Seg) { s.Off, s.Size = 0xffffffff, 0 }), true},
		{"At and Room are 2^32 - 1", load(func(s *api.Seg) { s.At, s.Room = 0xffff0000, 0xffff }), true},
		{"At and Room are 2^32", load(func(s *api.Seg) { s.At, s.Room = 0xffff0000, 0x10000 }), false},
		{"At and Room of SgDyn are 2^32 - 1", dyn(func(s *api.Seg) { s.At, s.Room = 0xffffffeb, 20 }), true},
		{"At and Room of SgDyn are 2^32", dyn(func(s *api.Seg) { s.At, s.Room = 0xffffffec, 20 }), false},
		{"both at the end of numbers", dyn(func(s *api.Seg) { s.At, s.Room = 0xffffffff, 0xffffffff }), false},
		{"Align 0 of SgLoad", load(func(s *api.Seg) { s.Align = 0 }), false},
		{"Align 4095 of SgLoad", load(func(s *api.Seg) { s.Align = 4095 }), false},
		{"Align 8192 of SgLoad", load(func(s *api.Seg) { s.Align = 8192 }), false},
		{"Off and At leave the same", load(func(s *api.Seg) { s.Off, s.At = 4097, 0x10000001 }), true},
		{"Off and At leave the last", load(func(s *api.Seg) { s.Off, s.At = 4095, 8191 }), true},
		{"Off and At leave others", load(func(s *api.Seg) { s.Off, s.At = 4097, 8194 }), false},
		{"Off and At leave others by 4096, the same by 2048", load(func(s *api.Seg) { s.Off, s.At = 2048, 8192 }), false},
		{"Align 0 of SgDyn", dyn(func(s *api.Seg) { s.Align = 0 }), true},
		{"Align 3 of SgDyn", dyn(func(s *api.Seg) { s.Align = 3 }), true},
		{"Align 4096 of SgDyn", dyn(func(s *api.Seg) { s.Align = 4096 }), true},
		{"Align 4097 of SgDyn", dyn(func(s *api.Seg) { s.Align = 4097 }), false},
		{"Align 4096 of SgInterp", dyn(func(s *api.Seg) { s.Kind, s.Align = api.SgInterp, 4096 }), true},
		{"Align 4097 of SgInterp", dyn(func(s *api.Seg) { s.Kind, s.Align = api.SgInterp, 4097 }), false},
		{"the last of three is none", withThird(9), false},
		{"the last of three is one", withThird(api.SgInterp), true},
	}
}

func withThird(kind int) api.Elf {
	e := sample()
	e.Segs[2].Kind = kind
	return e
}

// P13.1: Fit, at the edges of each number.
func TestFit(t *testing.T) {
	for _, c := range cases() {
		if got := Fit(c.e); got != c.fit {
			t.Errorf("%s: Fit is %v", c.name, got)
		}
	}
}

// P13.1: Same, field by field.
func TestSame(t *testing.T) {
	if !Same(sample(), sample()) || !Same(api.Elf{}, api.Elf{Segs: []api.Seg{}}) {
		t.Error("the same are not the same")
	}
	changes := map[string]func(*api.Elf){
		"Shared":         func(e *api.Elf) { e.Shared = false },
		"Entry":          func(e *api.Elf) { e.Entry++ },
		"one more":       func(e *api.Elf) { e.Segs = append(e.Segs, api.Seg{}) },
		"one fewer":      func(e *api.Elf) { e.Segs = e.Segs[:2] },
		"none":           func(e *api.Elf) { e.Segs = nil },
		"another order":  func(e *api.Elf) { slices.Reverse(e.Segs) },
		"Kind":           func(e *api.Elf) { e.Segs[2].Kind++ },
		"Off":            func(e *api.Elf) { e.Segs[2].Off++ },
		"At":             func(e *api.Elf) { e.Segs[2].At++ },
		"Size":           func(e *api.Elf) { e.Segs[2].Size++ },
		"Room":           func(e *api.Elf) { e.Segs[2].Room++ },
		"Prot":           func(e *api.Elf) { e.Segs[2].Prot++ },
		"Align":          func(e *api.Elf) { e.Segs[2].Align++ },
		"the first Prot": func(e *api.Elf) { e.Segs[0].Prot++ },
	}
	for name, change := range changes {
		e := sample()
		change(&e)
		if Same(e, sample()) || Same(sample(), e) {
			t.Errorf("%s: others are the same", name)
		}
	}
}

// P13.1: Prots, of the lowest three bits.
func TestProts(t *testing.T) {
	want := []int{0, api.PrExec, api.PrWrite, api.PrWrite | api.PrExec, api.PrRead, api.PrRead | api.PrExec, api.PrRead | api.PrWrite, api.PrAll}
	for flags := range uint32(8) {
		for _, above := range []uint32{0, 8, 0x7ffffff8, 0xfffffff8} {
			if got := Prots(above | flags); got != want[flags] {
				t.Errorf("Prots(%#x) is %d", above|flags, got)
			}
		}
	}
}

// P13.2: Write of a fit header is its bytes, of another one none.
func TestWrite(t *testing.T) {
	if got := Write(sample()); got != sampleBytes {
		t.Errorf("Write: % x", got)
	}
	e := sample()
	e.Shared, e.Segs = false, nil
	if got, want := Write(e), sampleBytes[:17]+"\x02"+sampleBytes[18:45]+"\x00"+sampleBytes[46:52]; got != want {
		t.Errorf("Write: % x", got)
	}
	for _, c := range cases() {
		got, want := len(Write(c.e)), 0
		if c.fit {
			want = 52 + 32*len(c.e.Segs)
		}
		if got != want {
			t.Errorf("%s: Write has %d bytes", c.name, got)
		}
	}
}

// P13.3 and P13.4: the chapter's example.
func TestExample(t *testing.T) {
	s := Write(api.Elf{Entry: 4096})
	if e, err := Parse(s); len(s) != 52 || err != api.OK || !Same(e, api.Elf{Entry: 4096}) || e.Segs != nil {
		t.Errorf("%d bytes: %v, %v", len(s), e, err)
	}
	wrong(t, "51 bytes", s[:51], api.ErrShort)
}

// wrong holds Parse to an error, and to the zero header beside it.
func wrong(t *testing.T, name, s string, want api.Errno) {
	t.Helper()
	e, err := Parse(s)
	if err != want {
		t.Errorf("%s: %v, and not %v", name, err, want)
	}
	if err != api.OK && (!Same(e, api.Elf{}) || e.Segs != nil) {
		t.Errorf("%s: %v beside an error", name, e)
	}
}

// put is a text with other bytes at a place.
func put(s string, at int, bytes string) string { return s[:at] + bytes + s[at+len(bytes):] }

// P13.3: the header of a file.
func TestParse(t *testing.T) {
	for _, more := range []string{"", "more"} {
		if e, err := Parse(sampleFile() + more); err != api.OK || !Same(e, sample()) {
			t.Errorf("%v, %v", e, err)
		}
	}
	e, err := Parse(put(sampleFile(), 17, "\x02"))
	if err != api.OK || e.Shared || e.Entry != sample().Entry || !slices.Equal(e.Segs, sample().Segs) {
		t.Errorf("type 2: %v, %v", e, err)
	}
}

// P13.3: ErrShort of fewer than 52 bytes, whatever they are.
func TestParseShort(t *testing.T) {
	for n := range 52 {
		wrong(t, "a beginning", sampleFile()[:n], api.ErrShort)
		wrong(t, "bytes 0", strings.Repeat("\x00", n), api.ErrShort)
	}
	wrong(t, "52 bytes 0", strings.Repeat("\x00", 52), api.ErrMagic)
}

// P13.3: each of the first 52 bytes changed.
func TestParseFirstBytes(t *testing.T) {
	for at := range 52 {
		want := api.ErrForm
		switch {
		case at < 16:
			want = api.ErrMagic
		case at >= 24 && at < 28:
			want = api.OK // Entry
		}
		for bit := range 8 {
			s := put(sampleFile(), at, string([]byte{sampleBytes[at] ^ 1<<bit}))
			switch {
			case at == 17 && bit == 0: // type 2
				wrong(t, "type 2", s, api.OK)
			case at == 45 && bit < 2: // fewer segments
				wrong(t, "fewer segments", s, api.OK)
			case at == 45 && bit < 4: // 7 and 11 of them
				wrong(t, "more segments", s, api.ErrShort)
			default:
				wrong(t, "byte "+string([]byte{'0' + byte(at/10), '0' + byte(at%10)}), s, want)
			}
		}
	}
}

// P13.3: the types 2 and 3, and others.
func TestParseType(t *testing.T) {
	for kind := range 65536 {
		want := api.ErrForm
		if kind == 2 || kind == 3 {
			want = api.OK
		}
		wrong(t, "type", put(sampleFile(), 16, string([]byte{byte(kind >> 8), byte(kind)})), want)
	}
}

// P13.3: how many segments there are, and where the file ends within them.
func TestParseCount(t *testing.T) {
	file := Write(many(16)) + strings.Repeat("y", 8192)
	for n := range 17 {
		s := put(file, 45, string([]byte{byte(n)}))
		if e, err := Parse(s); err != api.OK || len(e.Segs) != n {
			t.Errorf("%d segments: %v, %v", n, e, err)
		}
		for end := 52; end < 52+32*n; end++ {
			wrong(t, "an end within", s[:end], api.ErrShort)
		}
	}
	wrong(t, "17 segments", put(file, 45, "\x11"), api.ErrForm)
	wrong(t, "17 segments, and no bytes of them", put(file, 45, "\x11")[:52], api.ErrForm)
	wrong(t, "65535 segments", put(file, 44, "\xff\xff"), api.ErrForm)
	wrong(t, "256 segments", put(file, 44, "\x01\x00"), api.ErrForm)
}

// P13.3: segments that can't be.
func TestParseSegments(t *testing.T) {
	for n := range 3 {
		first := 52 + 32*n
		for at := 8; at < 16; at++ {
			wrong(t, "two At", put(sampleFile(), first+at, string([]byte{sampleBytes[first+at] ^ 1})), api.ErrForm)
		}
		for at := 24; at < 27; at++ {
			wrong(t, "flags above 255", put(sampleFile(), first+at, "\x01"), api.ErrForm)
		}
		wrong(t, "flags 0", put(sampleFile(), first+27, "\x00"), api.OK)
		wrong(t, "flags 7", put(sampleFile(), first+27, "\x07"), api.OK)
		wrong(t, "flags 8", put(sampleFile(), first+27, "\x08"), api.ErrForm)
		wrong(t, "kind 0", put(sampleFile(), first+3, "\x00"), api.ErrForm)
		wrong(t, "kind 4", put(sampleFile(), first+3, "\x04"), api.ErrForm)
		wrong(t, "kind 2^31", put(sampleFile(), first, "\x80"), api.ErrForm)
		wrong(t, "Size above Room", put(sampleFile(), first+20, "\x00\x00\x00\x00"), api.ErrForm)
		wrong(t, "Align 4097", put(sampleFile(), first+28, "\x00\x00\x10\x01"), api.ErrForm)
	}
}

// P13.3: Off and Size at the length of the file, and one above it.
func TestParseRange(t *testing.T) {
	wrong(t, "one byte fewer", sampleFile()[:199], api.ErrRange)
	for n := range 3 {
		s := sample()
		s.Segs[n] = api.Seg{Kind: api.SgDyn, Off: 190, Size: 10, Room: 10}
		wrong(t, "at the length", Write(s)+strings.Repeat("x", 52), api.OK)
		s.Segs[n].Off++
		wrong(t, "Off one above it", Write(s)+strings.Repeat("x", 52), api.ErrRange)
		s.Segs[n] = api.Seg{Kind: api.SgDyn, Off: 190, Size: 11, Room: 11}
		wrong(t, "Size one above it", Write(s)+strings.Repeat("x", 52), api.ErrRange)
		s.Segs[n] = api.Seg{Kind: api.SgDyn, Off: 200}
		wrong(t, "no bytes at the length", Write(s)+strings.Repeat("x", 52), api.OK)
		s.Segs[n] = api.Seg{Kind: api.SgDyn, Off: 201}
		wrong(t, "no bytes above it", Write(s)+strings.Repeat("x", 52), api.ErrRange)
		s.Segs[n] = api.Seg{Kind: api.SgDyn, Off: 0xffffffff}
		wrong(t, "no bytes at the end of numbers", Write(s)+strings.Repeat("x", 52), api.ErrRange)
		s.Segs[n] = api.Seg{Kind: api.SgDyn, Off: 0, Size: 200, Room: 0xffffffff}
		wrong(t, "much room", Write(s)+strings.Repeat("x", 52), api.OK)
	}
}

// P13.3: the first error that applies, where several do.
func TestParseFirstError(t *testing.T) {
	noForm := put(sampleFile(), 20, "\x01")
	twoAt := put(sampleFile(), 52+8, "\x01")
	wrong(t, "short and no magic", put(sampleFile(), 0, "x")[:51], api.ErrShort)
	wrong(t, "no magic and no form", put(noForm, 15, "x"), api.ErrMagic)
	wrong(t, "no form and an end within a segment", noForm[:60], api.ErrForm)
	wrong(t, "no form of the last number and an end within a segment", put(sampleFile(), 51, "\x01")[:60], api.ErrForm)
	wrong(t, "two At and an end within the last segment", twoAt[:52+95], api.ErrShort)
	wrong(t, "two At and a range", twoAt[:52+96], api.ErrForm)
	wrong(t, "a range, and not fit behind it", put(put(sampleFile(), 52+4, "\x01"), 52+64+3, "\x09"), api.ErrForm)
	wrong(t, "a range of the first", put(sampleFile(), 52+4, "\x01"), api.ErrRange)
}

// P13.4: there and back, with bytes up to the last segment's end.
func TestThereAndBack(t *testing.T) {
	for _, c := range cases() {
		if !c.fit {
			continue
		}
		file := Write(c.e)
		for _, s := range c.e.Segs {
			if end := uint64(s.Off) + uint64(s.Size); end < 1<<20 && end > uint64(len(file)) {
				file += strings.Repeat("z", int(end)-len(file))
			}
		}
		e, err := Parse(file)
		switch {
		case far(c.e):
			wrong(t, c.name, file, api.ErrRange)
		case err != api.OK || !Same(e, c.e) || !strings.HasPrefix(file, Write(e)):
			t.Errorf("%s: %v, %v", c.name, e, err)
		}
	}
}

// far tells whether a segment is too far off for a test's file.
func far(e api.Elf) bool {
	return slices.ContainsFunc(e.Segs, func(s api.Seg) bool { return s.Off >= 1<<20 })
}

// 0.5: what is told is new memory, and what is given stays.
func TestOwnMemory(t *testing.T) {
	a, _ := Parse(sampleFile())
	b, _ := Parse(sampleFile())
	clear(a.Segs[:cap(a.Segs)])
	if !Same(b, sample()) {
		t.Errorf("two answers share memory: %v", b)
	}
	given := sample()
	Fit(given)
	Write(given)
	Same(given, b)
	if !Same(given, sample()) {
		t.Errorf("what was given changed: %v", given)
	}
}
