package pack

import (
	"slices"
	"strings"
	"testing"

	"ferry/api"
	"ferry/elf"
	"ferry/image"
	"ferry/names"
)

// sampleHead is the header of sample's file, byte by byte: Code is at 472 in the file, the table of places at 488.
const sampleHead = "\x7fELF\x01\x02\x01\x00\x00\x00\x00\x00\x00\x00\x00\x00" +
	"\x00\x03\x00\x08\x00\x00\x00\x01\x00\x01\x01\xdc\x00\x00\x00\x34\x00\x00\x00\x00\x70\x00\x10\x00" +
	"\x00\x34\x00\x20\x00\x04\x00\x00\x00\x00\x00\x00" +
	"\x00\x00\x00\x01\x00\x00\x00\x00\x00\x01\x00\x00\x00\x01\x00\x00\x00\x00\x01\xe4\x00\x00\x01\xe4\x00\x00\x00\x05\x00\x00\x10\x00" +
	"\x00\x00\x00\x01\x00\x00\x01\xe8\x00\x01\x11\xe8\x00\x01\x11\xe8\x00\x00\x00\x22\x00\x00\x00\x27\x00\x00\x00\x06\x00\x00\x10\x00" +
	"\x00\x00\x00\x02\x00\x00\x00\xc0\x00\x01\x00\xc0\x00\x01\x00\xc0\x00\x00\x00\x88\x00\x00\x00\x88\x00\x00\x00\x06\x00\x00\x00\x04" +
	"\x00\x00\x00\x03\x00\x00\x00\xb8\x00\x01\x00\xb8\x00\x01\x00\xb8\x00\x00\x00\x04\x00\x00\x00\x04\x00\x00\x00\x04\x00\x00\x00\x01" +
	"\x00\x00\x00\x00"

// sampleTags is its linking table.
const sampleTags = "\x00\x00\x00\x01\x00\x00\x00\x07" + "\x00\x00\x00\x01\x00\x00\x00\x0f" + "\x00\x00\x00\x0e\x00\x00\x00\x11" +
	"\x00\x00\x00\x04\x00\x01\x01\x48" + "\x00\x00\x00\x05\x00\x01\x01\xb0" + "\x00\x00\x00\x06\x00\x01\x01\x70" + "\x00\x00\x00\x11\x00\x01\x01\xc8" +
	"\x00\x00\x00\x0a\x00\x00\x00\x14" + "\x00\x00\x00\x12\x00\x00\x00\x10" + "\x00\x00\x00\x0b\x00\x00\x00\x10" + "\x00\x00\x00\x13\x00\x00\x00\x08" +
	"\x00\x00\x00\x0c\x00\x01\x01\xdc" + "\x00\x00\x00\x03\x00\x01\x11\xe8" + "\x70\x00\x00\x0a\x00\x00\x00\x03" + "\x70\x00\x00\x11\x00\x00\x00\x04" +
	"\x70\x00\x00\x13\x00\x00\x00\x02" + "\x00\x00\x00\x00\x00\x00\x00\x00"

// sampleFile is its file: who loads it, the linking table, the names' ways, the symbols, the names, the relocations, the code, the table of places, the data.
const sampleFile = sampleHead +
	"/ld\x00\x00\x00\x00\x00" +
	sampleTags +
	"\x00\x00\x00\x03\x00\x00\x00\x04\x00\x00\x00\x02\x00\x00\x00\x01\x00\x00\x00\x00\x00\x00\x00\x00\x00\x00\x00\x03\x00\x00\x00\x00\x00\x00\x00\x00\x00\x00\x00\x00" +
	"\x00\x00\x00\x00\x00\x00\x00\x00\x00\x00\x00\x00\x00\x00\x00\x00" +
	"\x00\x00\x00\x01\x00\x00\x00\x00\x00\x00\x00\x01\x20\x00\x00\x00" +
	"\x00\x00\x00\x03\x00\x01\x01\xe0\x00\x00\x00\x04\x10\x00\x00\x01" +
	"\x00\x00\x00\x05\x00\x01\x11\xff\x00\x00\x00\x02\x00\x00\x00\x02" +
	"\x00a\x00f\x00d\x00libc.so\x00m\x00me\x00\x00\x00\x00\x00" +
	"\x00\x01\x12\x06\x00\x00\x03\x03\x00\x01\x12\x01\x00\x00\x00\x00" +
	"abcdefghijkl\x00\x00\x00\x00" +
	"\x00\x00\x00\x00\x80\x00\x00\x00\x00\x01\x01\xe0\x00\x01\x01\xe0\x00\x01\x11\xff\x00\x00\x00\x00" +
	"0123456789"

// P16.2: a file's bytes, and where its parts are in memory.
func TestFile(t *testing.T) {
	if got := File(sample()); got != sampleFile {
		t.Errorf("%q, and not %q", got, sampleFile)
	}
	want := api.Places{Code: 0x101d8, Got: 0x111e8, Data: 0x11200, End: 0x1120f}
	if got := Place(sample()); got != want {
		t.Errorf("%x, and not %x", got, want)
	}
}

// P16.2 and P16.3: the chapter's example.
func TestExample(t *testing.T) {
	l := api.Lib{Code: "\x00\x00\x00\x0c\x00\x00\x00\x00"}
	e, err := elf.Parse(File(l))
	if err != api.OK || len(e.Segs) != 3 {
		t.Errorf("%v, %v", e, err)
	}
	if p := Place(l); p.Got != p.Code+8+4096 || p.Data != p.Got+8 || p.End != p.Data {
		t.Errorf("%v", p)
	}
}

// P16.2: a library of nothing has a file of the tables alone.
func TestFileOfNothing(t *testing.T) {
	file, p := File(api.Lib{}), Place(api.Lib{})
	want := api.Places{Code: 304, Got: 304 + 4096, Data: 312 + 4096, End: 312 + 4096}
	if p != want || len(file) != 312 {
		t.Errorf("%v, %d bytes", p, len(file))
	}
	if strings.Repeat("\x00", 4) != file[148:152] || file[17] != 2 || file[45] != 3 {
		t.Errorf("%q", file[:152])
	}
	if tail := file[296:]; tail != "\x00\x00\x00\x00\x00\x00\x00\x00\x00\x00\x00\x00\x80\x00\x00\x00" {
		t.Errorf("%q", tail)
	}
}

// P16.2: what each of a library's fields changes of its file's length, one by one.
func TestFileWithAndWithout(t *testing.T) {
	l := api.Lib{Code: "abcd", Data: "12345678", Syms: []api.Sym{{Name: "abcdef", Bind: 1}}} // Strs has 9 bytes, with Soname's 0
	plain := len(File(l))
	for _, c := range []struct {
		what   string
		change func(*api.Lib)
		more   int
	}{
		{"Interp of 3 bytes", func(l *api.Lib) { l.Interp = "abc" }, 40},
		{"Interp of 7 bytes", func(l *api.Lib) { l.Interp = "abcdefg" }, 40},
		{"Interp of 8 bytes", func(l *api.Lib) { l.Interp = "abcdefgh" }, 48},
		{"Soname of 7 bytes", func(l *api.Lib) { l.Soname = "abcdefg" }, 8},
		{"Soname of 8 bytes", func(l *api.Lib) { l.Soname = "abcdefgh" }, 16},
		{"Needed of 6 bytes", func(l *api.Lib) { l.Needed = []string{"abcdef"} }, 8},
		{"Needed of 7 bytes", func(l *api.Lib) { l.Needed = []string{"abcdefg"} }, 16},
		{"Init", func(l *api.Lib) { l.Init = 1 }, 8},
		{"Entry", func(l *api.Lib) { l.Entry = 1 }, 0},
		{"a relocation", func(l *api.Lib) { l.Rels = make([]api.Rel, 1) }, 8},
		{"a Local", func(l *api.Lib) { l.Local = make([]uint32, 1) }, 8},
		{"two Local", func(l *api.Lib) { l.Local = make([]uint32, 2) }, 8},
		{"a Global", func(l *api.Lib) { l.Global = 1 }, 8},
		{"a Local and a Global", func(l *api.Lib) { l.Local, l.Global = make([]uint32, 1), 1 }, 8},
		{"Code of 8 bytes", func(l *api.Lib) { l.Code = "abcdefgh" }, 0},
		{"Code of 12 bytes", func(l *api.Lib) { l.Code = "abcdefghijkl" }, 8},
		{"Data of 9 bytes", func(l *api.Lib) { l.Data = "123456789" }, 1},
		{"Bss", func(l *api.Lib) { l.Bss = 8192 }, 0},
		{"Base", func(l *api.Lib) { l.Base = 4096 }, 0},
		{"Shared", func(l *api.Lib) { l.Shared = true }, 0},
		{"one more symbol", func(l *api.Lib) { l.Syms = append(slices.Clone(l.Syms), l.Syms...) }, 16},
	} {
		changed := l
		c.change(&changed)
		places, file := model(changed)
		if got := File(changed); got != file || Place(changed) != places || len(got) != plain+c.more {
			t.Errorf("%s: %d bytes more; %q, and not %q", c.what, len(got)-plain, got, file)
		}
	}
}

// parsed is the header of a library's file.
func parsed(t *testing.T, l api.Lib) (api.Elf, string) {
	t.Helper()
	file := File(l)
	e, err := elf.Parse(file)
	if err != api.OK {
		t.Errorf("Parse: %v", err)
	}
	return e, file
}

// P16.2: the segments, with and without Interp and Bss.
func TestSegments(t *testing.T) {
	all := func(change func(*api.Lib), room uint32, interp bool) {
		t.Helper()
		l := with(change)
		e, file := parsed(t, l)
		p := Place(l)
		end := p.Code - l.Base + uint32(len(l.Code))
		want := []api.Seg{
			{Kind: api.SgLoad, Off: 0, At: l.Base, Size: end, Room: end, Prot: api.PrRead + api.PrExec, Align: 4096},
			{Kind: api.SgLoad, Off: p.Got - l.Base - 4096, At: p.Got, Size: p.End - p.Got - room, Room: p.End - p.Got, Prot: api.PrRead + api.PrWrite, Align: 4096},
		}
		if len(e.Segs) < 3 || !slices.Equal(e.Segs[:2], want) || int(want[1].Off+want[1].Size) != len(file) {
			t.Fatalf("%v, and not %v", e.Segs, want)
		}
		dyn := e.Segs[2]
		if dyn.Kind != api.SgDyn || dyn.Prot != api.PrRead+api.PrWrite || dyn.Align != 4 || dyn.Room != dyn.Size || dyn.At != l.Base+dyn.Off || dyn.Off%8 != 0 {
			t.Errorf("%v", dyn)
		}
		if !interp {
			if len(e.Segs) != 3 {
				t.Errorf("%v", e.Segs)
			}
			return
		}
		at := uint32(184)
		name := api.Seg{Kind: api.SgInterp, Off: at, At: l.Base + at, Size: 4, Room: 4, Prot: api.PrRead, Align: 1}
		if len(e.Segs) != 4 || e.Segs[3] != name || file[at:at+4] != "/ld\x00" {
			t.Errorf("%v", e.Segs)
		}
	}
	all(func(*api.Lib) {}, 5, true)
	all(func(l *api.Lib) { l.Bss = 0 }, 0, true)
	all(func(l *api.Lib) { l.Bss, l.Interp = 8192, "" }, 8192, false)
	all(func(l *api.Lib) { l.Base, l.Interp = 1<<30, "" }, 5, false)
	all(func(l *api.Lib) { l.Base, l.Code, l.Data, l.Rels = 0, "", "", nil }, 5, true)
}

// P16.2: Entry is Code's address and the library's, Shared the library's.
func TestEntry(t *testing.T) {
	for _, shared := range []bool{false, true} {
		for _, entry := range []uint32{0, 1, 4, 4096} {
			l := with(func(l *api.Lib) { l.Shared, l.Entry = shared, entry })
			if e, _ := parsed(t, l); e.Shared != shared || e.Entry != Place(l).Code+entry {
				t.Errorf("%v", e)
			}
		}
	}
}

// symbols is the symbols that stand in a library's file, whose symbols' names have so many bytes in all.
func symbols(t *testing.T, l api.Lib, bytes int) []api.Sym {
	t.Helper()
	_, _, syms, strs, _, _, _, _, _, _ := modelPlaces(l)
	file := File(l)
	list, err := names.Read(api.Table{Syms: file[syms:strs], Strs: file[strs : strs+1+bytes+len(l.Syms)]})
	if err != api.OK {
		t.Errorf("Read: %v", err)
	}
	return list
}

// P16.2: symbols' addresses by their part, and modulo 2^32; they stand in the table of places, too.
func TestSymbols(t *testing.T) {
	for _, value := range []uint32{0, 1, 0x7fffffff, 0x80000000, 0xfffffffc, 0xffffffff} {
		var all []api.Sym
		for part := range 3 {
			all = append(all, api.Sym{Name: "s" + string(rune('0'+part)), Value: value, Size: value, Bind: part, Part: part})
		}
		for global := range 4 {
			l := with(func(l *api.Lib) { l.Syms, l.Local, l.Global = all, []uint32{value, 5}, global })
			p := Place(l)
			want := []uint32{0, p.Code + value, p.Data + value}
			for i, s := range symbols(t, l, 6) {
				if s.Value != want[i] || s.Size != value || s.Bind != i || s.Part != i {
					t.Errorf("symbol %d: %v, and not at %#x", i, s, want[i])
				}
			}
			places := words(append([]uint32{0, 1 << 31, p.Code + value, p.Code + 5}, want[3-global:]...)...)
			if got := File(l)[p.Got-l.Base-4096:]; !strings.HasPrefix(got, places) {
				t.Errorf("%d Global: %q, and not %q", global, got, places)
			}
		}
	}
}

// P16.3: the parts stand where Place says, in the file and in the image; behind Data all is 0 up to End, and nothing behind that is the segment's.
func TestWhere(t *testing.T) {
	l := sample()
	p, file := Place(l), File(l)
	m, err := image.Parse(file)
	if err != api.OK || m.Low != l.Base || m.High != l.Base+0x2000 || m.Interp != "/ld" || m.DynAt != 0x100c0 || m.DynLen != uint32(len(sampleTags)) {
		t.Fatalf("%v, %v", m, err)
	}
	for _, c := range []struct {
		at   uint32
		want string
		ok   bool
	}{
		{l.Base, file[:484], true},
		{p.Code, l.Code, true},
		{p.Code, l.Code + "\x00", false},
		{p.Got, "\x00\x00\x00\x00\x80\x00\x00\x00\x00\x01\x01\xe0", true},
		{p.Got - 1, "\x00", false},
		{p.Data, l.Data + "\x00\x00\x00\x00\x00", true},
		{p.End - 1, "\x00", true},
		{p.End - 1, "\x00\x00", false},
	} {
		want := c.want
		if !c.ok {
			want = ""
		}
		if got, ok := image.Bytes(m, file, c.at, uint32(len(c.want))); got != want || ok != c.ok {
			t.Errorf("at %#x: %q, %v", c.at, got, ok)
		}
	}
}

// 0.5: what is given stays.
func TestGivenStays(t *testing.T) {
	l := sample()
	Fit(l)
	Place(l)
	File(l)
	if s := sample(); !slices.Equal(l.Needed, s.Needed) || !slices.Equal(l.Syms, s.Syms) || !slices.Equal(l.Rels, s.Rels) || !slices.Equal(l.Local, s.Local) {
		t.Errorf("%v", l)
	}
	room := append(make([]string, 0, 9), "x")
	File(api.Lib{Needed: room, Soname: "y"})
	if more := room[:2]; more[1] != "" {
		t.Errorf("behind Needed: %q", more)
	}
}
