package link

import (
	"slices"
	"strings"
	"testing"

	"ferry/api"
	"ferry/elf"
	"ferry/gmap"
	"ferry/pack"
)

// P19.2, P19.3: the chapter's example: a program that needs liba.so, that needs libb.so, both shared.
func TestExample(t *testing.T) {
	main, a, b := with(fixed(program, "liba.so"), asked("fa")), with(needs("libb.so"), there("fa", 4), asked("fb")), with(needs(), there("fb", 8))
	main.Init, a.Init, b.Init = 1, 5, 9
	files := []api.File{file(t, "libb.so", b), file(t, "main", main), file(t, "liba.so", a)}
	for _, p := range []api.Space{{}, sample(t)} {
		l := links(t, "the example", p, "main", files, "main", "liba.so", "libb.so")
		moved := []uint32{l.Mods[0].Moved, l.Mods[1].Moved, l.Mods[2].Moved}
		if moved[0] != 0 || moved[1] == 0 || moved[2] == 0 {
			t.Errorf("moved by %x", moved)
		}
		want := []uint32{pack.Place(b).Code + 8 + moved[2], pack.Place(a).Code + 4 + moved[1], pack.Place(main).Code}
		if !slices.Equal(l.Inits, want) {
			t.Errorf("Inits %x, and not %x", l.Inits, want)
		}
		if l.Entry != pack.Place(main).Code {
			t.Errorf("Entry %#x", l.Entry)
		}
		got := pack.Place(main).Got + 8
		if v, _ := wordAt(l.Space.Guest, got); v != pack.Place(a).Code+4+moved[1] {
			t.Errorf("fa is at %#x", v)
		}
	}
}

// P19.2: a program that needs nothing, and one without a table for linking.
func TestAlone(t *testing.T) {
	p := sample(t)
	l := links(t, "alone", p, "main", []api.File{file(t, "main", fixed(program))}, "main")
	if l.Entry != pack.Place(fixed(program)).Code || l.Inits != nil || l.Mods[0].Moved != 0 {
		t.Errorf("Entry %#x, Inits %x, moved by %#x", l.Entry, l.Inits, l.Mods[0].Moved)
	}
	bare := elf.Write(api.Elf{Entry: program + 9, Segs: []api.Seg{{Kind: api.SgLoad, At: program, Size: 84, Room: 84, Prot: 5, Align: size}}})
	l = links(t, "no table", p, "main", []api.File{{Name: "main", Data: bare}}, "main")
	if l.Entry != program+9 || l.Inits != nil || l.Mods[0].Dyn.Syms != nil {
		t.Errorf("Entry %#x, Inits %x, %v", l.Entry, l.Inits, l.Mods[0].Dyn)
	}
	links(t, "an empty name", p, "", []api.File{file(t, "main", fixed(0)), file(t, "", fixed(program))}, "")
	links(t, "Soname tells nothing", p, "main", []api.File{file(t, "main", api.Lib{Base: program, Soname: "other", Needed: []string{"main"}})}, "main")
}

// P19.2: a file is there by the first one of its Name, and if there is none, that is ahead of all.
func TestFiles(t *testing.T) {
	p, main := sample(t), file(t, "main", fixed(program, "lib"))
	fails(t, "no files", p, "main", nil, api.ErrNone)
	fails(t, "another name", p, "main", []api.File{{Name: "mai"}, {Name: "main "}, {Name: "Main"}, {}}, api.ErrNone)
	fails(t, "an empty name", p, "", []api.File{main}, api.ErrNone)
	fails(t, "a library that is not there", p, "main", []api.File{main}, api.ErrNone)
	fails(t, "a library by its Soname", p, "main", []api.File{main, file(t, "x", api.Lib{Shared: true, Soname: "lib"})}, api.ErrNone)
	fails(t, "a library's library", p, "main", []api.File{main, file(t, "lib", needs("more"))}, api.ErrNone)
	fails(t, "not there, and no room", crowded(p, 0), "other", []api.File{main}, api.ErrNone)

	one, two := with(needs(), there("f", 4)), with(needs(), there("f", 8), there("g", 12))
	for _, way := range []struct {
		first, second api.Lib
		syms          int
	}{{one, two, 1}, {two, one, 2}} {
		l := links(t, "two of one name", p, "main", []api.File{main, file(t, "lib", way.first), file(t, "lib", way.second)}, "main", "lib")
		if n := len(l.Mods[1].Dyn.Syms); n != way.syms {
			t.Errorf("two of one name: %d symbols, and not %d", n, way.syms)
		}
	}
	fails(t, "the first is no file of its kind", p, "main", []api.File{main, {Name: "lib"}, file(t, "lib", one)}, api.ErrShort)
	fails(t, "the first program is none", p, "main", []api.File{{Name: "main"}, main, file(t, "lib", one)}, api.ErrShort)
	links(t, "the second is no file of its kind", p, "main", []api.File{main, file(t, "lib", one), {Name: "lib"}, {Name: "main"}}, "main", "lib")
	links(t, "one file by two names", p, "main", []api.File{file(t, "main", fixed(program, "lib", "more")), file(t, "more", one), file(t, "lib", one)}, "main", "lib", "more")
	links(t, "what is no file, and not needed", p, "main", []api.File{{Name: "x"}, main, {Name: "y", Data: "\x7fELF"}, file(t, "lib", one)}, "main", "lib")
}

// P19.2, P19.3: the closure: each once, in the order in which it is met, all that a module needs ahead of what these need.
func TestClosure(t *testing.T) {
	p := sample(t)
	for _, row := range []struct {
		what  string
		needs map[string]string // each module's, with blanks between
		want  string
	}{
		{"the same twice", map[string]string{"main": "a a", "a": ""}, "main a"},
		{"the same twice, others between", map[string]string{"main": "a b a c b", "a": "", "b": "", "c": ""}, "main a b c"},
		{"itself", map[string]string{"main": "main"}, "main"},
		{"itself and another", map[string]string{"main": "main a main", "a": "a"}, "main a"},
		{"a library that needs the program", map[string]string{"main": "a", "a": "main"}, "main a"},
		{"a library that needs itself", map[string]string{"main": "a", "a": "a b", "b": "b"}, "main a b"},
		{"two that need each other", map[string]string{"main": "a", "a": "b", "b": "a"}, "main a b"},
		{"three in a ring", map[string]string{"main": "a", "a": "b", "b": "c", "c": "a main b"}, "main a b c"},
		{"over two ways", map[string]string{"main": "a b", "a": "c", "b": "c", "c": ""}, "main a b c"},
		{"over a longer way first", map[string]string{"main": "a c", "a": "b", "b": "c", "c": "d", "d": ""}, "main a c b d"},
		{"in order", map[string]string{"main": "c a", "a": "e b", "b": "", "c": "d", "d": "b", "e": "f", "f": ""}, "main c a d e b f"},
		{"eight", map[string]string{"main": "a b c d e f g", "a": "", "b": "main", "c": "", "d": "a", "e": "", "f": "", "g": "g a"}, "main a b c d e f g"},
		{"eight in a row", map[string]string{"main": "a", "a": "b", "b": "c", "c": "d", "d": "e", "e": "f", "f": "g", "g": "main a b c d e f g"}, "main a b c d e f g"},
	} {
		var files []api.File
		for name, all := range row.needs {
			l := needs(strings.Fields(all)...)
			if name == "main" {
				l = fixed(program, strings.Fields(all)...)
			}
			files = append(files, file(t, name, l))
		}
		links(t, row.what, p, "main", files, strings.Fields(row.want)...)
	}
}

// many is a program and libraries, nine in all, of which each needs the next one, or the program needs all.
func many(t *testing.T, inRow bool) []api.File {
	t.Helper()
	all := strings.Fields("main a b c d e f g h")
	var files []api.File
	for i, name := range all {
		l := needs()
		switch {
		case inRow:
			l = needs(all[min(i+1, 8)])
		case i == 0:
			l = needs(all[1:]...)
		}
		files = append(files, file(t, name, l))
	}
	return files
}

// P19.2: a ninth module is one too many, whatever its file is.
func TestMany(t *testing.T) {
	p := sample(t)
	for _, inRow := range []bool{false, true} {
		files := many(t, inRow)
		fails(t, "nine", p, "main", files, api.ErrMany)
		fails(t, "the ninth is not there", p, "main", files[:8], api.ErrMany)
		files[8].Data = ""
		fails(t, "the ninth is no file of its kind", p, "main", files, api.ErrMany)
		files[7].Data = ""
		fails(t, "the eighth is no file of its kind", p, "main", files, api.ErrShort)
		fails(t, "the eighth is not there", p, "main", files[:7], api.ErrNone)
	}
	files := many(t, true)
	files[7] = file(t, "g", needs("g", "a", "main"))
	links(t, "eight", p, "main", files, "main", "a", "b", "c", "d", "e", "f", "g")
	links(t, "eight from the second on", p, "a", append(many(t, true)[:8], file(t, "h", needs("a"))), "a", "b", "c", "d", "e", "f", "g", "h")
	files[0] = file(t, "main", with(needs("a"), asked("nobody")))
	files[7] = file(t, "g", needs("h"))
	fails(t, "nine, and a symbol of nobody", p, "main", files, api.ErrMany)
}

// P19.2: the errors of a file of another kind, in the order of image.Parse, dyn.Parse, image.Room and image.Load.
func TestWrongFiles(t *testing.T) {
	lib := needs()
	lib.Rels = []api.Rel{{Kind: api.RlRel32}}
	good := pack.File(lib)
	noRoom := tight(t, 1) // that is the program's
	for _, row := range []struct {
		what, data string
		want       api.Errno
	}{
		{"no bytes", "", api.ErrShort},
		{"too few", good[:51], api.ErrShort},
		{"another magic", "\x7fELf" + good[4:], api.ErrMagic},
		{"another type", good[:17] + "\x04" + good[18:], api.ErrForm},
		{"no segment's end", good[:len(good)-1], api.ErrRange},
		{"a table that is none", badTable(t, lib), api.ErrForm},
		{"a relocation that is none", badKind(t, lib), api.ErrReloc},
		{"no image, and no table either", badTable(t, lib)[:100], api.ErrShort},
		{"nothing wrong but room", good, api.ErrFull},
	} {
		p := noRoom
		fails(t, row.what+", no room", p, "main", []api.File{file(t, "main", fixed(program, "lib")), {Name: "lib", Data: row.data}}, row.want)
		if row.want == api.ErrFull {
			continue
		}
		p = sample(t)
		fails(t, row.what, p, "main", []api.File{file(t, "main", fixed(program, "lib")), {Name: "lib", Data: row.data}}, row.want)
		fails(t, row.what+", the program", p, "main", []api.File{{Name: "main", Data: row.data}}, row.want)
		fails(t, row.what+", and one that is not there", p, "main", []api.File{file(t, "main", fixed(program, "lib", "none")), {Name: "lib", Data: row.data}}, row.want)
		fails(t, row.what+", behind one that is not there", p, "main", []api.File{file(t, "main", fixed(program, "none", "lib")), {Name: "lib", Data: row.data}}, api.ErrNone)
		fails(t, row.what+", ahead of a symbol of nobody", p, "main", []api.File{file(t, "main", with(fixed(program, "lib"), asked("nobody"))), {Name: "lib", Data: row.data}}, row.want)
	}
}

// badTable is a library's file whose table for linking is none: it has no symbols' number.
func badTable(t *testing.T, l api.Lib) string {
	t.Helper()
	return replaced(t, pack.File(l), words(0x70000011), words(0x70000012))
}

// badKind is a library's file with a relocation of a kind that is none.
func badKind(t *testing.T, l api.Lib) string {
	t.Helper()
	at := words(pack.Place(l).Data + l.Rels[0].At)
	return replaced(t, pack.File(l), at+words(api.RlRel32), at+words(4))
}

func replaced(t *testing.T, s, old, now string) string {
	t.Helper()
	if strings.Count(s, old) != 1 {
		t.Fatalf("%q stands %d times in the file", old, strings.Count(s, old))
	}
	return strings.Replace(s, old, now, 1)
}

// P19.2: what is Shared is moved to where there is room, be it a library or the program.
func TestShared(t *testing.T) {
	p := sample(t)
	main, lib := with(needs("lib"), there("main", 4), asked("f")), with(needs(), there("f", 8))
	main.Entry, main.Init = 8, 9
	l := links(t, "shared", p, "main", []api.File{file(t, "main", main), file(t, "lib", lib)}, "main", "lib")
	one, two := l.Mods[0].Moved, l.Mods[1].Moved
	pages := uint32(2 * size) // one of the code's, one of the data's
	if top := uint32(api.Top - size); one != top-pages-size || two != one-pages {
		t.Errorf("moved by %#x, %#x", one, two)
	}
	if l.Entry != pack.Place(main).Code+8+one || !slices.Equal(l.Inits, []uint32{pack.Place(main).Code + 8 + one}) {
		t.Errorf("Entry %#x, Inits %x", l.Entry, l.Inits)
	}
	main.Base, lib.Base = 1<<30, 0 // where a shared one is in its file tells nothing
	l = links(t, "shared, elsewhere", p, "main", []api.File{file(t, "main", main), file(t, "lib", lib)}, "main", "lib")
	if now, again := l.Mods[0].Moved, l.Mods[1].Moved; now+1<<30 != one+size || again != two+size {
		t.Errorf("elsewhere: moved by %#x, %#x", now, again)
	}
	if l.Entry != pack.Place(main).Code+8+l.Mods[0].Moved {
		t.Errorf("elsewhere: Entry %#x", l.Entry)
	}
}

// P19.2: Entry counts modulo 2^32, wherever the header says that the program begins.
func TestEntryOver(t *testing.T) {
	bare := elf.Write(api.Elf{Shared: true, Entry: 0xfffffff0, Segs: []api.Seg{{Kind: api.SgLoad, At: 0, Size: 84, Room: 84, Prot: 5, Align: size}}})
	l := links(t, "far", api.Space{}, "main", []api.File{{Name: "main", Data: bare}}, "main")
	if l.Entry != api.Top-size-16 {
		t.Errorf("Entry %#x", l.Entry)
	}
}

// P19.2: what is not Shared stays where it is, or can't be loaded.
func TestFixed(t *testing.T) {
	p := sample(t)
	main := file(t, "main", with(fixed(program, "lib"), asked("f")))
	lib := func(base uint32) api.File { return file(t, "lib", with(fixed(base), there("f", 4))) }
	l := links(t, "a library that is not shared", p, "main", []api.File{main, lib(program + 0x10000)}, "main", "lib")
	if l.Mods[1].Moved != 0 {
		t.Errorf("moved by %#x", l.Mods[1].Moved)
	}
	fails(t, "where the program is", p, "main", []api.File{main, lib(program)}, api.ErrMem)
	fails(t, "where the program's last page is", p, "main", []api.File{main, lib(program + size)}, api.ErrMem)
	fails(t, "up to the program's first page", p, "main", []api.File{file(t, "main", fixed(program+size, "lib")), lib(program)}, api.ErrMem)
	links(t, "ahead of the program's pages", p, "main", []api.File{file(t, "main", fixed(program+2*size, "lib")), lib(program)}, "main", "lib")
	links(t, "behind the program's pages", p, "main", []api.File{main, lib(program + 2*size)}, "main", "lib")
	fails(t, "where something is mapped", p, "main", []api.File{main, lib(0x101000)}, api.ErrMem)
	fails(t, "the program where something is mapped", p, "main", []api.File{file(t, "main", fixed(program-size))}, api.ErrMem)
	fails(t, "the program's second page where something is mapped", p, "main", []api.File{file(t, "main", fixed(program-2*size))}, api.ErrMem)
	fails(t, "at 0", p, "main", []api.File{file(t, "main", fixed(0))}, api.ErrInval)
	fails(t, "a library at 0", p, "main", []api.File{main, lib(0)}, api.ErrInval)
	fails(t, "no room at the host", crowded(p, 0), "main", []api.File{main, lib(program + 0x10000)}, api.ErrFull)
	fails(t, "room for the program alone", crowded(p, 1), "main", []api.File{main, lib(program + 0x10000)}, api.ErrFull)
	links(t, "room for both", crowded(p, 2), "main", []api.File{main, lib(program + 0x10000)}, "main", "lib")
	above := elf.Write(api.Elf{Entry: api.Top, Segs: []api.Seg{{Kind: api.SgLoad, At: api.Top, Size: 84, Room: 84, Prot: 5, Align: size}}})
	fails(t, "above Top", p, "main", []api.File{{Name: "main", Data: above}}, api.ErrInval)
}

// tight is a sample with just some pages of the host left, of which whatever is Shared needs one.
func tight(t *testing.T, left int) api.Space {
	t.Helper()
	p := paged(t, sample(t), api.Top-2*size, 1)
	return crowded(paged(t, p, api.Top-3*size, 1), left)
}

// P19.2: no room for one that is Shared: image.Room's error, ahead of what stands behind it.
func TestNoRoom(t *testing.T) {
	main, lib := file(t, "main", needs("lib", "none")), file(t, "lib", needs())
	fails(t, "none at the host", tight(t, 0), "main", []api.File{main, lib}, api.ErrFull)
	fails(t, "for the program, but it needs one that is not there", tight(t, 1), "main", []api.File{main}, api.ErrNone)
	big := needs()
	big.Bss = 8192
	fails(t, "for the program alone", tight(t, 1), "main", []api.File{main, file(t, "lib", big)}, api.ErrFull)
	fails(t, "for both, and a third one is not there", tight(t, 2), "main", []api.File{main, file(t, "lib", big)}, api.ErrNone)
	full := api.Space{Start: size, End: api.Top} // all is the heap's
	fails(t, "none among the addresses", full, "main", []api.File{main, lib}, api.ErrMem)
	links(t, "what is not Shared needs none of that", full, "main", []api.File{file(t, "main", fixed(program))}, "main")
}

// P19.2: 256 pages of the guest, and more.
func TestAllPages(t *testing.T) {
	for _, row := range []struct {
		pages uint32
		l     api.Lib
		want  api.Errno
	}{
		{254, fixed(program + 254*size), api.OK}, {255, fixed(program + 255*size), api.ErrMem},
		{254, needs(), api.ErrFull}, {255, needs(), api.ErrMem}, {248, needs(), api.OK},
	} {
		p, _, e := gmap.Mmap(api.Space{}, program, row.pages*size, 3, true)
		if e != api.OK {
			t.Fatal(e)
		}
		if files := []api.File{file(t, "main", row.l)}; row.want == api.OK {
			links(t, "all", p, "main", files, "main")
		} else {
			fails(t, "too many", p, "main", files, row.want)
		}
	}
}

// P19.2, P19.5: relocations: each word, with the addresses of symbols wherever these are.
func TestRelocations(t *testing.T) {
	p := sample(t)
	main := with(fixed(program, "liba", "libb"), asked("fa"), weak("none"), local("here", 4, api.PtData), asked("fb"))
	main.Rels = []api.Rel{{At: 0, Kind: api.RlRel32, Sym: 1}, {At: 4, Kind: api.RlRel32, Sym: 3}, {At: 8, Kind: api.RlRel32, Sym: 4}}
	a := with(needs(), there("fa", 4), asked("fb"), api.Sym{Name: "main", Bind: api.SyWeak})
	a.Rels, a.Local = []api.Rel{{At: 0, Kind: api.RlRel32}, {At: 4, Kind: api.RlRel32, Sym: 2}, {At: 8}}, []uint32{8, 12}
	b := with(needs("liba"), there("fb", 8), there("fa", 12))
	b.Global = 1
	l := links(t, "all", p, "main", []api.File{file(t, "main", main), file(t, "liba", a), file(t, "libb", b)}, "main", "liba", "libb")
	pm, pa, pb := pack.Place(main), pack.Place(a), pack.Place(b)
	ma, mb := l.Mods[1].Moved, l.Mods[2].Moved
	fa, fb := pa.Code+4+ma, pb.Code+8+mb
	has := func(at uint32, want ...uint32) {
		t.Helper()
		for i, v := range want {
			if got, ok := wordAt(l.Space.Guest, at+4*uint32(i)); !ok || got != v {
				t.Errorf("the word %d at %#x is %#x, and not %#x", i, at, got, v)
			}
		}
	}
	has(pm.Data, 1+fa, 2+pm.Data+4, 3+fb)
	has(pm.Got, 0, 1<<31, fa, 0, pm.Data+4, fb)
	has(pa.Data+ma, 1+ma, 2+fb, 3)
	has(pa.Got+ma, 0, 1<<31, pa.Code+8+ma, pa.Code+12+ma, fa, fb, 0)
	has(pb.Data+mb, 1, 2, 3)
	has(pb.Got+mb, 0, 1<<31, fa)
}

// P19.4: a symbol that is there in two modules is that of the earlier one, for all: for those ahead, behind, and for the later one itself.
func TestTheFirst(t *testing.T) {
	p := sample(t)
	main, a := with(fixed(program, "a", "b", "c"), asked("f")), with(needs(), asked("f"), weak("g"))
	b := with(needs(), there("g", 0), there("f", 4))
	c := with(needs("a"), api.Sym{Name: "f", Value: 8, Bind: api.SyWeak, Part: api.PtData}, there("g", 4))
	files := []api.File{file(t, "main", main), file(t, "a", a), file(t, "b", b), file(t, "c", c)}
	l := links(t, "f and g in two", p, "main", files, "main", "a", "b", "c")
	f, g := pack.Place(b).Code+4+l.Mods[2].Moved, pack.Place(b).Code+l.Mods[2].Moved
	for i, want := range [][]uint32{{f}, {f, g}, {g, f}, {f, g}} {
		if got, e := Symbols(l.Mods, l.Mods[i]); e != api.OK || !slices.Equal(got, want) {
			t.Errorf("the symbols of %s: %x, %v, and not %x", l.Mods[i].Name, got, e, want)
		}
	}
	files[0] = file(t, "main", with(fixed(program, "a", "c", "b"), asked("f")))
	l = links(t, "the other way round", p, "main", files, "main", "a", "c", "b")
	if at, ok := Resolve(l.Mods, "f"); !ok || at != pack.Place(c).Data+8+l.Mods[2].Moved {
		t.Errorf("the weak one, ahead: %#x, %v", at, ok)
	}
	files[0] = file(t, "main", with(fixed(program, "a", "c", "b"), there("f", 12)))
	l = links(t, "the program's", p, "main", files, "main", "a", "c", "b")
	if at, ok := Resolve(l.Mods, "f"); !ok || at != pack.Place(main).Code+12 {
		t.Errorf("the program's: %#x, %v", at, ok)
	}
}

// P19.2: a symbol of nobody, and relocations that can't be put: the first module's in order.
func TestNotPut(t *testing.T) {
	p := sample(t)
	bad := with(needs(), asked("nobody"))
	far := needs()
	far.Rels = []api.Rel{{At: 4, Kind: api.RlRel32}}
	main := file(t, "main", fixed(program, "a", "b"))
	at := func(name string, l api.Lib, where uint32) api.File {
		return api.File{Name: name, Data: relAt(t, l, 0, where)}
	}
	fails(t, "a symbol", p, "main", []api.File{main, file(t, "a", bad), file(t, "b", needs())}, api.ErrSymbol)
	fails(t, "a relocation", p, "main", []api.File{main, file(t, "a", needs()), at("b", far, 0x60000000)}, api.ErrRange)
	fails(t, "a symbol, then a relocation", p, "main", []api.File{main, file(t, "a", bad), at("b", far, 0x60000000)}, api.ErrSymbol)
	fails(t, "a relocation, then a symbol", p, "main", []api.File{main, at("a", far, 0x60000000), file(t, "b", bad)}, api.ErrRange)
	both := with(far, asked("nobody"))
	fails(t, "both in one", p, "main", []api.File{main, at("a", both, 0x60000000), file(t, "b", needs())}, api.ErrSymbol)
	fails(t, "the program's symbol", p, "main", []api.File{file(t, "main", with(fixed(program), asked("nobody")))}, api.ErrSymbol)
	fails(t, "one that is not there, behind", p, "main", []api.File{main, at("a", both, 0x60000000)}, api.ErrNone)
	links(t, "weak", p, "main", []api.File{main, file(t, "a", with(needs(), weak("nobody"))), file(t, "b", needs())}, "main", "a", "b")
	links(t, "a local one", p, "main", []api.File{main, file(t, "a", with(needs(), local("nobody", 4, api.PtCode), local("no", 4, api.PtNone))), file(t, "b", needs())}, "main", "a", "b")
}

// P19.2: where relocations are is their own affair: one of a place that was there already changes that.
func TestRelocationElsewhere(t *testing.T) {
	p := sample(t)
	main := fixed(program)
	main.Rels = []api.Rel{{Kind: api.RlRel32}, {At: 4, Kind: api.RlRel32, Sym: 1}}
	main = with(main, there("f", 8))
	s := relAt(t, main, 1, 0x100004)
	was, _ := wordAt(p.Guest, 0x100004)
	l, e := Link(p, "main", []api.File{{Name: "main", Data: s}})
	if v, ok := wordAt(l.Space.Guest, 0x100004); e != api.OK || !ok || v != was+pack.Place(main).Code+8 {
		t.Errorf("%v, %#x", e, v)
	}
	if v, _ := wordAt(p.Guest, 0x100004); v != was || !slices.Equal(l.Space.Guest.Pages[:2], p.Guest.Pages[:2]) {
		t.Errorf("what was given changed: %#x", v)
	}
}

// P19.2: Inits are of the modules that have one, the last one first.
func TestInits(t *testing.T) {
	p := sample(t)
	for which := range 16 {
		var files []api.File
		var places []api.Places
		for i, name := range []string{"main", "a", "b", "c"} {
			l := needs()
			if i == 0 {
				l = fixed(program, "a", "b", "c")
			}
			if which>>i&1 == 1 {
				l.Init = uint32(1 + 4*i)
			}
			files, places = append(files, file(t, name, l)), append(places, pack.Place(l))
		}
		l := links(t, "some", p, "main", files, "main", "a", "b", "c")
		var want []uint32
		for i := 3; i >= 0; i-- {
			if which>>i&1 == 1 {
				want = append(want, places[i].Code+uint32(4*i)+l.Mods[i].Moved)
			}
		}
		if !slices.Equal(l.Inits, want) || len(want) == 0 && l.Inits != nil {
			t.Errorf("%x, and not %x", l.Inits, want)
		}
	}
}
