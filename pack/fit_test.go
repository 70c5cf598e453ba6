package pack

import (
	"slices"
	"strings"
	"testing"

	"ferry/api"
)

// sample is a library that has something of everything, and of each part a length that is no multiple of 8 where it can be.
func sample() api.Lib {
	return api.Lib{
		Shared: true, Base: 0x10000, Entry: 4, Code: "abcdefghijkl", Data: "0123456789", Bss: 5,
		Needed: []string{"libc.so", "m"}, Soname: "me", Interp: "/ld",
		Syms: []api.Sym{
			{Name: "a", Value: 77, Size: 1, Bind: api.SyWeak, Part: api.PtNone},
			{Name: "f", Value: 8, Size: 4, Bind: api.SyGlobal, Part: api.PtCode},
			{Name: "d", Value: 0xffffffff, Size: 2, Bind: api.SyLocal, Part: api.PtData},
		},
		Rels:  []api.Rel{{At: 6, Kind: api.RlRel32, Sym: 3}, {At: 1, Kind: api.RlNothing, Sym: 0}},
		Local: []uint32{8}, Global: 2, Init: 5,
	}
}

func with(change func(*api.Lib)) api.Lib {
	l := sample()
	change(&l)
	return l
}

// many is n symbols, of names that are not the same.
func many(n int) (l []api.Sym) {
	for i := range n {
		l = append(l, api.Sym{Name: "s" + string(rune('A'+i)), Bind: api.SyGlobal, Part: api.PtCode})
	}
	return l
}

type fitCase struct {
	what string
	l    api.Lib
	fit  bool
}

func numberCases() []fitCase {
	base := func(v uint32) api.Lib { return with(func(l *api.Lib) { l.Base = v }) }
	code := func(n int) api.Lib { return with(func(l *api.Lib) { l.Code = strings.Repeat("c", n) }) }
	data := func(n int) api.Lib {
		return with(func(l *api.Lib) { l.Data, l.Rels = strings.Repeat("d", n), nil })
	}
	bss := func(v uint32) api.Lib { return with(func(l *api.Lib) { l.Bss = v }) }
	local := func(n int) api.Lib { return with(func(l *api.Lib) { l.Local = make([]uint32, n) }) }
	global := func(n int) api.Lib { return with(func(l *api.Lib) { l.Global = n }) }
	entry := func(v uint32) api.Lib { return with(func(l *api.Lib) { l.Entry = v }) }
	start := func(v uint32) api.Lib { return with(func(l *api.Lib) { l.Init = v }) }
	return []fitCase{
		{"a zero one", api.Lib{}, true},
		{"all of it", sample(), true},
		{"empty lists", api.Lib{Needed: []string{}, Syms: []api.Sym{}, Rels: []api.Rel{}, Local: []uint32{}}, true},
		{"Base 0", base(0), true},
		{"Base 4096", base(4096), true},
		{"Base 1", base(1), false},
		{"Base 4095", base(4095), false},
		{"Base 2048", base(2048), false},
		{"Base 2^30", base(1 << 30), true},
		{"Base 2^30 and a page", base(1<<30 + 4096), false},
		{"Base 2^30 and 1", base(1<<30 + 1), false},
		{"the highest Base", base(0xfffff000), false},
		{"no Code", code(0), true},
		{"Code of 1 byte", code(1), false},
		{"Code of 2 bytes", code(2), false},
		{"Code of 4 bytes", code(4), true},
		{"Code of 4095 bytes", code(4095), false},
		{"Code of 4096 bytes", code(4096), true},
		{"Code of 4097 bytes", code(4097), false},
		{"Code of 4100 bytes", code(4100), false},
		{"no Data", data(0), true},
		{"Data of 1 byte", data(1), true},
		{"Data of 4096 bytes", data(4096), true},
		{"Data of 4097 bytes", data(4097), false},
		{"no Bss", bss(0), true},
		{"Bss 8192", bss(8192), true},
		{"Bss 8193", bss(8193), false},
		{"Bss below 0", bss(1<<32 - 1), false},
		{"no Local", local(0), true},
		{"30 Local", local(30), true},
		{"31 Local", local(31), false},
		{"any Local", with(func(l *api.Lib) { l.Local = []uint32{0xffffffff, 0x80000000, 3} }), true},
		{"Global below 0", global(-1), false},
		{"Global far below 0", global(-1 << 63), false},
		{"Global 0", global(0), true},
		{"Global the number of Syms", global(3), true},
		{"Global one more", global(4), false},
		{"the greatest Global", global(1<<63 - 1), false},
		{"Entry 0", entry(0), true},
		{"Entry 4096", entry(4096), true},
		{"Entry 4097", entry(4097), false},
		{"the greatest Entry", entry(0xffffffff), false},
		{"Init 0", start(0), true},
		{"Init 4096", start(4096), true},
		{"Init 4097", start(4097), false},
		{"the greatest Init", start(0xffffffff), false},
	}
}

func textCases() (all []fitCase) {
	needed := func(names ...string) api.Lib { return with(func(l *api.Lib) { l.Needed = names }) }
	all = append(all,
		fitCase{"no Needed", needed(), true},
		fitCase{"8 Needed", needed(slices.Repeat([]string{"x"}, 8)...), true},
		fitCase{"9 Needed", needed(slices.Repeat([]string{"x"}, 9)...), false},
		fitCase{"the last of 8 Needed has no bytes", needed("a", "b", "c", "d", "e", "f", "g", ""), false},
	)
	for _, c := range []struct {
		what, text   string
		name, isText bool
	}{
		{"0 bytes", "", false, true},
		{"1 byte", "x", true, true},
		{"31 bytes", strings.Repeat("x", 31), true, true},
		{"32 bytes", strings.Repeat("x", 32), false, false},
		{"31 bytes in fewer runes", strings.Repeat("é", 15) + "x", true, true},
		{"32 bytes in fewer runes", strings.Repeat("é", 16), false, false},
		{"65536 bytes", strings.Repeat("x", 65536), false, false},
		{"a byte 0 alone", "\x00", false, false},
		{"a byte 0 ahead", "\x00x", false, false},
		{"a byte 0 within", "x\x00x", false, false},
		{"a byte 0 behind", "x\x00", false, false},
		{"31 bytes, the last one 0", strings.Repeat("x", 30) + "\x00", false, false},
		{"bytes that are no text", "\xff\x80\x01 ", true, true},
	} {
		all = append(all,
			fitCase{"Needed of " + c.what, needed(c.text), c.name},
			fitCase{"the last Needed of " + c.what, needed("x", c.text), c.name},
			fitCase{"Soname of " + c.what, with(func(l *api.Lib) { l.Soname = c.text }), c.isText},
			fitCase{"Interp of " + c.what, with(func(l *api.Lib) { l.Interp = c.text }), c.isText},
		)
	}
	return all
}

func tableCases() []fitCase {
	syms := func(all ...api.Sym) api.Lib {
		return with(func(l *api.Lib) { l.Syms, l.Rels, l.Global = all, nil, 0 })
	}
	rels := func(data string, all ...api.Rel) api.Lib {
		return with(func(l *api.Lib) { l.Data, l.Rels = data, all })
	}
	kind := func(n int) api.Lib { return rels("12345", api.Rel{Kind: n}) }
	at := func(data string, v uint32) api.Lib { return rels(data, api.Rel{At: v}) }
	sym := func(n int) api.Lib { return rels("12345", api.Rel{Sym: n}) }
	return []fitCase{
		{"no Syms", syms(), true},
		{"60 Syms", syms(many(60)...), true},
		{"61 Syms", syms(many(61)...), false},
		{"201 Syms", syms(many(201)...), false},
		{"a symbol without a name", syms(api.Sym{}), false},
		{"a symbol of 32 bytes", syms(api.Sym{Name: strings.Repeat("x", 32)}), false},
		{"a symbol with a byte 0", syms(api.Sym{Name: "x\x00"}), false},
		{"a symbol's Bind 3", syms(api.Sym{Name: "x", Bind: 3}), false},
		{"a symbol's Part 3", syms(api.Sym{Name: "x", Part: 3}), false},
		{"a symbol's Part below 0", syms(api.Sym{Name: "x", Part: -1}), false},
		{"the last symbol's Bind below 0", syms(append(many(3), api.Sym{Name: "x", Bind: -1})...), false},
		{"two symbols of one name", syms(api.Sym{Name: "x"}, api.Sym{Name: "x"}), true},
		{"no Rels", rels(""), true},
		{"60 Rels", rels("1234", make([]api.Rel, 60)...), true},
		{"61 Rels", rels("1234", make([]api.Rel, 61)...), false},
		{"Kind RlNothing", kind(0), true},
		{"Kind RlRel32", kind(3), true},
		{"Kind below 0", kind(-1), false},
		{"Kind 1", kind(1), false},
		{"Kind 2", kind(2), false},
		{"Kind 4", kind(4), false},
		{"Kind 256", kind(256), false},
		{"Kind 259", kind(259), false},
		{"At of 4 bytes", at("1234", 0), true},
		{"At one more", at("1234", 1), false},
		{"At Data's length less 4", at("12345678", 4), true},
		{"At one more than that", at("12345678", 5), false},
		{"At Data's length", at("12345678", 8), false},
		{"At of 4096 bytes", at(strings.Repeat("d", 4096), 4092), true},
		{"At one more than that of 4096", at(strings.Repeat("d", 4096), 4093), false},
		{"At, no Data", at("", 0), false},
		{"At, Data of 3 bytes", at("123", 0), false},
		{"At less 1, Data of 3 bytes", at("123", 0xffffffff), false},
		{"At less 4, no Data", at("", 0xfffffffc), false},
		{"At less 4", at("1234", 0xfffffffc), false},
		{"Sym below 0", sym(-1), false},
		{"Sym 0", sym(0), true},
		{"Sym the number of Syms", sym(3), true},
		{"Sym one more", sym(4), false},
		{"Sym 2^24", sym(1 << 24), false},
		{"Sym of no Syms", with(func(l *api.Lib) { l.Syms, l.Global = nil, 0 }), false},
		{"the last of Rels is none", rels("1234", api.Rel{}, api.Rel{}, api.Rel{Kind: 1}), false},
	}
}

// cases is libraries and whether they are fit, by the edges that the chapter names.
func cases() []fitCase { return slices.Concat(numberCases(), textCases(), tableCases()) }

// P16.1: Fit, by the edges of all that it asks.
func TestFit(t *testing.T) {
	for _, c := range cases() {
		if got := Fit(c.l); got != c.fit {
			t.Errorf("%s: %v", c.what, got)
		}
	}
}

// P16.2: a library that is not fit has neither places nor a file; each other one has those of the model.
func TestOfFit(t *testing.T) {
	for _, c := range cases() {
		places, file := Place(c.l), File(c.l)
		if !c.fit {
			if places != (api.Places{}) || file != "" {
				t.Errorf("%s: %v, %d bytes", c.what, places, len(file))
			}
			continue
		}
		if want, text := model(c.l); places != want || file != text {
			t.Errorf("%s: %v, and not %v; %q, and not %q", c.what, places, want, file, text)
		}
	}
}
