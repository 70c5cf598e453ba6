package dyn

import (
	"reflect"
	"slices"
	"strings"
	"testing"

	"ferry/api"
	"ferry/elf"
	"ferry/image"
	"ferry/names"
	"ferry/pack"
)

// many is so many symbols.
func many(n int) (l []api.Sym) {
	for i := range n {
		l = append(l, api.Sym{Name: "s" + string([]byte{'0' + byte(i/26), 'a' + byte(i%26)}), Value: uint32(i), Bind: api.SyGlobal, Part: api.PtCode})
	}
	return l
}

// withSyms is a sketch with a table of other symbols.
func (k sketch) withSyms(l []api.Sym, ways int) sketch {
	table := names.Write(l, ways)
	k = k.put(hashAt, table.Hash).put(symsAt, table.Syms).put(strsAt, table.Strs)
	return k.with(10, uint32(len(table.Strs))).with(0x70000011, uint32(len(l)+1))
}

// P17.1: the chapter's example.
func TestExample(t *testing.T) {
	s := pack.File(api.Lib{Shared: true, Needed: []string{"libc.so"}, Syms: []api.Sym{{Name: "main", Bind: api.SyGlobal, Part: api.PtCode}}})
	m, _ := image.Parse(s)
	d, err := Parse(m, s)
	if err != api.OK || !slices.Equal(d.Needed, []string{"libc.so"}) || len(d.Syms) != 1 || d.Own != 2 || d.First != 2 {
		t.Errorf("%v, %v", d, err)
	}
}

// P17.1: what stands in a table.
func TestParse(t *testing.T) {
	tells(t, "all tags", sample(), sampleDyn())
	tells(t, "those alone that must be there", bare(), bareDyn())
	k := sample()
	slices.Reverse(k.rows[:len(k.rows)-1])
	want := sampleDyn()
	slices.Reverse(want.Needed)
	tells(t, "another order", k, want)
	if at, found := names.Find(taken(t, "all tags", sample()).Table, "count"); at != 2 || !found {
		t.Errorf("count is not found: %d, %v", at, found)
	}
}

// P17.1: an image without a table has a zero one, whatever its bytes are.
func TestNoTable(t *testing.T) {
	s := elf.Write(api.Elf{Segs: []api.Seg{{Kind: api.SgLoad, At: base, Size: 84, Room: 4096, Prot: 5, Align: 4096}}})
	m, err := image.Parse(s)
	if err != api.OK || m.DynLen != 0 {
		t.Fatalf("the test's own file: %v, %v", m, err)
	}
	for _, c := range []struct {
		m api.Image
		s string
	}{{m, s}, {m, s + "more"}, {api.Image{}, ""}, {api.Image{DynAt: base}, s}} {
		if d, err := Parse(c.m, c.s); err != api.OK || !isZero(d) {
			t.Errorf("%v, %v", d, err)
		}
	}
}

// P17.1: a table ends with its first tag 0, and what stands behind that is none of it.
func TestTableEnd(t *testing.T) {
	k := sample()
	refused(t, "no tag 0", sketch{k.rows[:len(k.rows)-1], k.bytes})
	refused(t, "no tag but 0", sketch{[]row{{}}, k.bytes})
	refused(t, "0 ahead of all", sketch{slices.Insert(slices.Clone(k.rows), 0, row{}), k.bytes})
	refused(t, "0 ahead of the last one that must be there", sketch{slices.Insert(slices.Clone(k.rows), 14, row{}), k.bytes})
	tells(t, "0 with a value", sketch{append(slices.Clone(k.rows[:len(k.rows)-1]), row{0, 7}), k.bytes}, sampleDyn())
	behind := slices.Concat(k.rows, k.rows[:3], []row{{0x70000011, 9}, {1, 0xffffffff}})
	tells(t, "tags behind 0", sketch{behind, k.bytes}, sampleDyn())
}

// P17.1: a table whose length is no multiple of 8 is no image's; by itself, it is none.
func TestTableLength(t *testing.T) {
	s := sample().file()
	m, err := image.Parse(s)
	if err != api.OK || int(m.DynLen) != 8*len(sample().rows) {
		t.Fatalf("%v, %v", m, err)
	}
	for _, n := range []uint32{1, 4, 7, m.DynLen - 1, m.DynLen - 4, m.DynLen + 1, m.DynLen + 7} {
		size := words(n)
		file := s[:52+32+16] + size + size + s[52+32+24:]
		none, err := image.Parse(file)
		if err != api.ErrForm {
			t.Errorf("%d bytes: %v", n, err)
		}
		if d, err := Parse(none, file); err != api.OK || !isZero(d) {
			t.Errorf("%d bytes, and no image: %v, %v", n, d, err)
		}
		changed := m
		changed.DynLen = n
		if d, err := Parse(changed, s); err != api.ErrForm || !isZero(d) {
			t.Errorf("%d bytes: %v, %v", n, d, err)
		}
	}
}

// P17.1: the bytes of the table are the image's.
func TestTableWhere(t *testing.T) {
	s := sample().file()
	m, _ := image.Parse(s)
	for _, at := range []uint32{0, base - 8, base - 1, second - 8, imageEnd - 8, imageEnd, 0xfffffff8} {
		changed := m
		changed.DynAt = at
		if d, err := Parse(changed, s); err != api.ErrForm || !isZero(d) {
			t.Errorf("at %x: %v, %v", at, d, err)
		}
	}
	for _, n := range []uint32{65544, 0xfffffff8} {
		changed := m
		changed.DynLen = n
		if d, err := Parse(changed, s); err != api.ErrForm || !isZero(d) {
			t.Errorf("%d bytes: %v, %v", n, d, err)
		}
	}
}

// P17.1: each tag but Needed's stands once at most.
func TestTwice(t *testing.T) {
	for _, r := range sample().rows[:len(sample().rows)-1] {
		switch r[0] {
		case 1, 11, 19:
			continue
		}
		refused(t, "twice the same", sample().more(r))
		refused(t, "twice, with another value", sample().more(row{r[0], r[1] + 4}))
		refused(t, "twice, with 0", sample().more(row{r[0], 0}))
	}
	want := sampleDyn()
	want.Needed = append(want.Needed, "libm.so")
	tells(t, "Needed twice the same", sample().more(row{1, 25}), want)
	refused(t, "Init twice, though 0", bare().more(row{12, 0}, row{12, 0}))
}

// P17.1: other tags are passed over, whatever they say and however often they stand.
func TestPassedOver(t *testing.T) {
	for _, tag := range []uint32{2, 7, 8, 9, 11, 13, 15, 16, 19, 20, 23, 256, 0x10000, 0x7000000, 0x70000000, 0x70000001, 0x70000009, 0x7000000b, 0x70000010, 0x70000012, 0x70000014, 0x7fffffff, 0x80000001, 0xffffffff} {
		for _, value := range []uint32{0, 1, 0xffffffff} {
			tells(t, "another tag", sample().more(row{tag, value}, row{tag, value}), sampleDyn())
			tells(t, "another tag of few", bare().more(row{tag, value}), bareDyn())
		}
	}
	tells(t, "none to be passed over", sample().without(11, 19), sampleDyn())
}

// P17.1: 4, 5, 6, 10 and 70000011 must be there.
func TestMissing(t *testing.T) {
	for _, tag := range []uint32{4, 5, 6, 10, 0x70000011} {
		refused(t, "one is missing", sample().without(tag))
		refused(t, "one is missing of few", bare().without(tag))
		refused(t, "one alone", sketch{[]row{{tag, bare().value(tag)}, {}}, bare().bytes})
	}
	refused(t, "all are missing", sample().without(4, 5, 6, 10, 0x70000011))
}

// P17.1: what is 0 where its tag is not there, or is there with 0.
func TestWithout(t *testing.T) {
	want := sampleDyn()
	want.Init = 0
	tells(t, "no Init", sample().without(12), want)
	tells(t, "Init 0", sample().with(12, 0), want)
	want.Init = 0xffffffff
	tells(t, "Init out of the image", sample().with(12, 0xffffffff), want)
	want = sampleDyn()
	want.Needed = nil
	tells(t, "no Needed", sample().without(1), want)
	want = sampleDyn()
	want.Soname = ""
	tells(t, "no Soname", sample().without(14), want)
	want = sampleDyn()
	want.Rels = nil
	tells(t, "no relocations", sample().without(17, 18), want)
	want = sampleDyn()
	want.Got, want.Own, want.First = 0, 0, 0
	tells(t, "no places", sample().without(3, 0x7000000a, 0x70000013), want)
}

// P17.1: how many symbols there are.
func TestCount(t *testing.T) {
	for _, n := range []int{0, 1, 2, 199, 200} {
		d := taken(t, "symbols", bare().withSyms(many(n), 3))
		if len(d.Syms) != n || n > 0 && !slices.Equal(d.Syms, many(n)) || d.Table != names.Write(many(n), 3) {
			t.Errorf("%d symbols: %v", n, d)
		}
	}
	table := names.Write(many(200), 3)
	more := bare().put(symsAt, table.Syms+words(1, 0, 0, 0x10000001)).put(strsAt, table.Strs)
	more = more.put(hashAt, words(3, 202)).with(10, uint32(len(table.Strs))).with(0x70000011, 202)
	refused(t, "202", more)
	refused(t, "2^32 - 1", bare().put(hashAt, words(3, 0xffffffff)).with(0x70000011, 0xffffffff))
	refused(t, "2^28 and 1", bare().put(hashAt, words(1, 1<<28+1, 0, 0)).with(0x70000011, 1<<28+1))
	refused(t, "2^30 and 1", bare().put(hashAt, words(1, 1<<30+1, 0, 0)).with(0x70000011, 1<<30+1)) // as many bytes, modulo 2^32, as 1 has
	refused(t, "0", bare().put(hashAt, words(1, 0, 0, 0)).with(0x70000011, 0))
	refused(t, "one more than Hash tells", bare().with(0x70000011, 2))
}

// P17.1: how many bytes Strs has.
func TestStrsLength(t *testing.T) {
	k := bare().put(strsAt, "\x00"+strings.Repeat("x", 30)+"\x00")
	for _, n := range []uint32{1, 2, 32, 4095, 4096} {
		d := taken(t, "Strs", k.with(10, n))
		if len(d.Table.Strs) != int(n) || !strings.HasPrefix(k.bytes[strsAt]+strings.Repeat("\x00", 4096), d.Table.Strs) {
			t.Errorf("%d bytes: %q", n, d.Table.Strs)
		}
	}
	for _, n := range []uint32{4097, 8192, 65537, 1<<32 - 1} {
		refused(t, "Strs of more than 4096 bytes", k.with(10, n))
	}
	want := bareDyn()
	want.Table.Strs = ""
	tells(t, "no Strs and no symbols", bare().with(10, 0), want)
	refused(t, "no Strs, and symbols", sample().without(1, 14).with(10, 0))
}

// P17.1: all parts are the image's bytes, of one segment: each at the segments' edges.
func TestWhere(t *testing.T) {
	table := names.Write(sampleSyms(), 3)
	for _, part := range []struct {
		tag   uint32
		bytes string
	}{
		{4, table.Hash}, {5, sampleStrs}, {6, table.Syms}, {17, sample().bytes[relsAt]}, {3, sample().bytes[gotAt]},
	} {
		n := uint32(len(part.bytes))
		moved := func(at uint32) sketch { return sample().with(part.tag, at).put(at, part.bytes) }
		for _, at := range []uint32{bytesEnd - n, second, imageEnd - n} {
			want := sampleDyn()
			if part.tag == 3 {
				want.Got = at
			}
			tells(t, "moved", moved(at), want)
		}
		for _, at := range []uint32{0, base - n, base - 1, second - n + 1, second - 1, imageEnd - n + 1, imageEnd - 1, imageEnd, imageEnd + 1, 0xffffffff, -n} {
			refused(t, "moved out of the image, or over a segment's end", moved(at))
		}
		refused(t, "at 0", sample().with(part.tag, 0))
	}
}

// P17.1: behind a segment's file bytes there are bytes 0, which are the image's, too.
func TestBehindTheFile(t *testing.T) {
	for _, at := range []uint32{bytesEnd, second - 64} {
		tells(t, "symbols 0", bare().with(6, at), bareDyn())
		tells(t, "names 0", bare().with(5, at), bareDyn())
		refused(t, "Hash 0", bare().with(4, at))
		want := sampleDyn()
		want.Rels = make([]api.Rel, 3)
		k := sample().with(17, at)
		delete(k.bytes, relsAt)
		tells(t, "relocations 0", k, want)
		want = sampleDyn()
		want.Got = at
		tells(t, "places 0", sample().with(3, at), want)
	}
	head := words(3, 1)
	want := bareDyn()
	want.Table.Hash = head + strings.Repeat("\x00", 16)
	tells(t, "Hash partly behind the file's bytes", bare().put(bytesEnd-8, head).with(4, bytesEnd-8), want)
	want = bareDyn()
	want.Table = api.Table{Syms: words(0, 0, 0, 0, 1, 5, 6, 0), Strs: "\x00ab\x00", Hash: words(1, 2, 1, 0, 0)}
	want.Syms = []api.Sym{{Name: "ab", Value: 5, Size: 6}}
	k := bare().put(hashAt, want.Table.Hash).with(10, 4).with(0x70000011, 2)
	tells(t, "symbols partly behind the file's bytes", k.put(strsAt, "\x00ab").put(bytesEnd-28, words(0, 0, 0, 0, 1, 5, 6)).with(6, bytesEnd-28), want)
	tells(t, "names partly behind the file's bytes", k.put(symsAt, want.Table.Syms).put(bytesEnd-3, "\x00ab").with(5, bytesEnd-3), want)
	want = sampleDyn()
	want.Got = bytesEnd - 8
	tells(t, "places partly behind the file's bytes", sample().with(3, bytesEnd-8), want)
	want = bareDyn()
	want.Rels = []api.Rel{{At: 7, Kind: api.RlRel32}, {At: 8}}
	tells(t, "relocations partly behind the file's bytes", bare().put(bytesEnd-12, words(7, 3, 8)).more(row{17, bytesEnd - 12}, row{18, 16}), want)
}

// P17.1: Hash's ways and how many symbols it tells.
func TestHash(t *testing.T) {
	for _, ways := range []int{1, 2, 63, 64} {
		d := taken(t, "ways", bare().withSyms(sampleSyms(), ways))
		if d.Table != names.Write(sampleSyms(), ways) {
			t.Errorf("%d ways: %v", ways, d.Table)
		}
	}
	for _, ways := range []uint32{0, 65, 66, 255, 256, 1 << 30, 1<<32 - 1} {
		refused(t, "ways", sample().put(hashAt, words(ways, 4)))
	}
	for _, n := range []uint32{0, 1, 3, 5, 200, 1<<30 + 4, 1<<32 - 1} {
		refused(t, "another number of symbols", sample().put(hashAt, words(3, n)))
	}
	d := taken(t, "numbers that lead nowhere", sample().put(hashAt, words(3, 4, 1<<32-1, 7, 7, 7, 7, 7, 7)))
	if d.Table.Hash != words(3, 4, 1<<32-1, 7, 7, 7, 7, 7, 7) {
		t.Errorf("%q", d.Table.Hash)
	}
	for _, ways := range []int{1, 3, 64} {
		hash := names.Write(sampleSyms(), ways).Hash
		at := imageEnd - uint32(len(hash))
		d := taken(t, "Hash at the image's end", sample().put(at, hash).with(4, at))
		if d.Table.Hash != hash {
			t.Errorf("%d ways: %q", ways, d.Table.Hash)
		}
		for more := uint32(1); more < 5; more++ {
			refused(t, "Hash over the image's end", sample().put(at+more, hash).with(4, at+more))
		}
	}
	refused(t, "Hash's first number alone", sample().put(imageEnd-4, words(3)).with(4, imageEnd-4))
}

// P17.1: symbols that names.Read refuses.
func TestSymbols(t *testing.T) {
	syms := sample().bytes[symsAt]
	change := func(at int, b byte) sketch {
		return sample().put(symsAt, syms[:at]+string([]byte{b})+syms[at+1:])
	}
	for at := range 16 {
		refused(t, "the symbol 0 is not 0", change(at, 1))
	}
	refused(t, "Bind 3", change(28, 0x30))
	refused(t, "Bind's lowest bits", change(28, 0x11))
	refused(t, "a byte that is 0", change(29, 1))
	refused(t, "Part 3", change(31, 3))
	refused(t, "Part 256", change(30, 1))
	refused(t, "a name out of Strs", change(18, 1))
	refused(t, "no name", change(19, 0))
	refused(t, "a name of 32 bytes", bare().withSyms([]api.Sym{{Name: strings.Repeat("x", 31)}}, 1).put(strsAt, strings.Repeat("x", 33)).with(10, 34))
	refused(t, "a name without a byte 0 behind it", bare().withSyms([]api.Sym{{Name: "abc"}}, 1).with(10, 4))
	taken(t, "a name with a byte 0 behind it", bare().withSyms([]api.Sym{{Name: "abc"}}, 1).with(10, 5))
	d := taken(t, "a part of a name", change(19, 2))
	if len(d.Syms) != 3 || d.Syms[0].Name != "ain" {
		t.Errorf("a part of a name: %v", d.Syms)
	}
}

// P17.1: the names of Needed and Soname.
func TestTexts(t *testing.T) {
	long := strings.Repeat("l", 31)
	strs := "\x00a\x00" + long + "\x00" + long + "m\x00end" // at 1, 3, 35, 68; 71 bytes
	texts := bare().put(strsAt, strs).with(10, uint32(len(strs)))
	for _, c := range []struct {
		name string
		at   uint32
		text string // "": refused
	}{
		{"1 byte", 1, "a"},
		{"31 bytes", 3, long},
		{"30 bytes of a name", 4, long[1:]},
		{"31 bytes of a name", 36, long[1:] + "m"},
		{"the last byte of a name", 66, "m"},
		{"no bytes at the beginning", 0, ""},
		{"no bytes behind a name", 2, ""},
		{"no bytes behind the last", 67, ""},
		{"32 bytes", 35, ""},
		{"no byte 0 behind it", 68, ""},
		{"no byte 0 behind the last byte", 70, ""},
		{"where Strs ends", 71, ""},
		{"behind Strs", 72, ""},
		{"far behind Strs", 0x80000000, ""},
		{"at the end of numbers", 0xffffffff, ""},
	} {
		for _, tag := range []uint32{1, 14} {
			k := texts.more(row{tag, c.at})
			want := bareDyn()
			want.Table.Strs = strs
			switch tag {
			case 1:
				want.Needed = []string{c.text}
			default:
				want.Soname = c.text
			}
			if c.text == "" {
				refused(t, c.name, k)
				refused(t, c.name+", as another", texts.more(row{1, 1}, row{tag, c.at}, row{1, 1}))
			} else {
				tells(t, c.name, k, want)
			}
		}
	}
	refused(t, "a byte 0 behind Strs", texts.put(strsAt, strs+"\x00").more(row{1, 68}))
	taken(t, "a byte 0 at Strs' end", texts.put(strsAt, strs+"\x00").with(10, 72).more(row{1, 68}))
	refused(t, "any name of empty Strs", bare().with(10, 0).more(row{1, 0}))
}

// P17.1: many names of Needed, in order.
func TestManyNeeded(t *testing.T) {
	k, want := sample(), sampleDyn()
	for i := range 40 {
		k = k.more(row{1, []uint32{25, 17, 33, 1}[i%4]})
		want.Needed = append(want.Needed, []string{"libm.so", "libc.so", "me.so", "main"}[i%4])
	}
	tells(t, "40 more", k, want)
}

// P17.1: the relocations' tags, and how many bytes these have.
func TestRelocationTags(t *testing.T) {
	refused(t, "17 without 18", sample().without(18))
	refused(t, "18 without 17", sample().without(17))
	refused(t, "17 alone, 0", bare().more(row{17, 0}))
	refused(t, "18 alone, 0", bare().more(row{18, 0}))
	for n := range uint32(25) {
		want := sampleDyn()
		want.Rels = nil
		if n/8 > 0 {
			want.Rels = sampleDyn().Rels[:n/8]
		}
		if k := sample().with(18, n); n%8 == 0 {
			tells(t, "some relocations", k, want)
		} else {
			refused(t, "no multiple of 8", k)
		}
	}
	var all []row
	for i := range 61 {
		all = append(all, row{uint32(i), 0x203})
	}
	k := sample().put(relsAt, rowsOf(all...))
	d := taken(t, "480 bytes", k.with(18, 480))
	if len(d.Rels) != 60 || d.Rels[59] != (api.Rel{At: 59, Kind: api.RlRel32, Sym: 2}) {
		t.Errorf("480 bytes: %v", d.Rels)
	}
	for _, n := range []uint32{481, 484, 488, 496, 1 << 31, 1<<32 - 8, 1<<32 - 1} {
		refused(t, "more than 480 bytes", k.with(18, n))
	}
}

// P17.1: no relocations are where the image's bytes are, or just behind these.
func TestNoRelocations(t *testing.T) {
	want := sampleDyn()
	want.Rels = nil
	for _, at := range []uint32{base, relsAt + 1, second, imageEnd} {
		tells(t, "no bytes in the image", sample().with(18, 0).with(17, at), want)
	}
	for _, at := range []uint32{0, base - 1, imageEnd + 1, 0xffffffff} {
		refused(t, "no bytes out of the image", sample().with(18, 0).with(17, at))
	}
}

// P17.1: a relocation's symbol is below n.
func TestRelocationSymbol(t *testing.T) {
	for at := range 3 {
		for _, c := range []struct {
			sym uint32
			is  bool
		}{{0, true}, {1, true}, {3, true}, {4, false}, {5, false}, {256, false}, {1<<24 - 1, false}} {
			rows := []row{{1, 3}, {2, 3}, {3, 3}}
			rows[at][1] = 256*c.sym + 3
			k := sample().put(relsAt, rowsOf(rows...))
			if !c.is {
				refused(t, "a symbol that is none", k)
				continue
			}
			d := taken(t, "a symbol", k)
			if len(d.Rels) != 3 || d.Rels[at] != (api.Rel{At: uint32(at + 1), Kind: api.RlRel32, Sym: int(c.sym)}) {
				t.Errorf("%v", d.Rels)
			}
		}
	}
	refused(t, "a symbol, and none", bare().put(relsAt, words(0, 0x103)).more(row{17, relsAt}, row{18, 8}))
	taken(t, "no symbol, and none", bare().put(relsAt, words(0, 3)).more(row{17, relsAt}, row{18, 8}))
}

// P17.1: a relocation's kind; ErrForm goes ahead of it.
func TestRelocationKind(t *testing.T) {
	for kind := range uint32(256) {
		for at := range 3 {
			rows := []row{{1, 3}, {2, 3}, {3, 3}}
			rows[at][1] = 0x200 + kind
			k := sample().put(relsAt, rowsOf(rows...))
			if kind != api.RlNothing && kind != api.RlRel32 {
				fails(t, "no kind", k, api.ErrReloc)
				continue
			}
			if d := taken(t, "a kind", k); len(d.Rels) != 3 || d.Rels[at].Kind != int(kind) || d.Rels[at].Sym != 2 {
				t.Errorf("kind %d: %v", kind, d.Rels)
			}
		}
	}
	noKind := sample().put(relsAt, words(0, 0x304, 0, 3, 0, 3))
	fails(t, "no kind", noKind, api.ErrReloc)
	taken(t, "no kind, but not one of these", noKind.with(17, relsAt+8).with(18, 16))
}

// P17.1: ErrForm goes ahead of ErrReloc, whatever is not of its form.
func TestFormAhead(t *testing.T) {
	noKind := sample().put(relsAt, words(0, 0x304, 0, 3, 0, 3))
	for name, k := range map[string]sketch{
		"no tag 0":                     {noKind.rows[:len(noKind.rows)-1], noKind.bytes},
		"a tag twice":                  noKind.more(row{12, 0}),
		"no 10":                        noKind.without(10),
		"too many symbols":             noKind.with(0x70000011, 202),
		"too many bytes of Strs":       noKind.with(10, 4097),
		"Hash out of the image":        noKind.with(4, 0),
		"Syms out of the image":        noKind.with(6, 0),
		"Strs out of the image":        noKind.with(5, 0),
		"no ways":                      noKind.put(hashAt, words(0, 4)),
		"another number in Hash":       noKind.put(hashAt, words(3, 5)),
		"symbols that are none":        noKind.with(6, symsAt+16),
		"Needed out of Strs":           noKind.more(row{1, 99}),
		"Soname out of Strs":           noKind.with(14, 99),
		"a relocation's symbol":        noKind.put(relsAt, words(0, 0x304, 0, 3, 0, 0x403)),
		"the same relocation's symbol": noKind.put(relsAt, words(0, 0x404, 0, 3, 0, 3)),
		"no First":                     noKind.without(0x70000013),
		"Own 33":                       noKind.with(0x7000000a, 33),
		"First 0":                      noKind.with(0x70000013, 0),
		"places out of the image":      noKind.with(3, 0),
	} {
		fails(t, name, k, api.ErrForm)
	}
}

// P17.1: 3, 7000000a and 70000013 are all there, or none.
func TestPlacesTags(t *testing.T) {
	all := []uint32{3, 0x7000000a, 0x70000013}
	for i, tag := range all {
		refused(t, "one is missing", sample().without(tag))
		refused(t, "two are missing", sample().without(all[(i+1)%3], all[(i+2)%3]))
		refused(t, "one alone, 0", bare().more(row{tag, 0}))
	}
}

// P17.1: Own, First, and how many places there are.
func TestPlaces(t *testing.T) {
	for _, own := range []uint32{0, 1, 33, 34, 1 << 30, 1<<32 - 1} {
		refused(t, "Own", sample().with(0x7000000a, own))
	}
	for _, first := range []uint32{0, 5, 6, 1 << 30, 1<<32 - 1} {
		refused(t, "First", sample().with(0x70000013, first))
	}
	for _, own := range []uint32{2, 3, 31, 32} {
		for _, first := range []uint32{1, 2, 3, 4} {
			k := sample().with(0x7000000a, own).with(0x70000013, first)
			want := sampleDyn()
			want.Own, want.First = int(own), int(first)
			tells(t, "places", k, want)
			end := imageEnd - 4*(own+4-first)
			want.Got = end
			tells(t, "places at the image's end", k.with(3, end), want)
			for more := uint32(1); more < 5; more++ {
				refused(t, "places over the image's end", k.with(3, end+more))
			}
		}
	}
	few := bare().more(row{3, gotAt + 1}, row{0x7000000a, 2}, row{0x70000013, 1})
	want := bareDyn()
	want.Got, want.Own, want.First = gotAt+1, 2, 1
	tells(t, "places of no symbol", few, want)
	refused(t, "First above n of no symbol", few.with(0x70000013, 2))
}

// P17.1 (Same): field by field, of any two.
func TestSame(t *testing.T) {
	empty := api.Dyn{Needed: []string{}, Syms: []api.Sym{}, Rels: []api.Rel{}}
	if !Same(sampleDyn(), sampleDyn()) || !Same(api.Dyn{}, empty) || !Same(empty, api.Dyn{}) {
		t.Error("the same are not the same")
	}
	for name, change := range map[string]func(*api.Dyn){
		"Needed":                  func(d *api.Dyn) { d.Needed[1] = "libc.sO" },
		"one more Needed":         func(d *api.Dyn) { d.Needed = append(d.Needed, "") },
		"one fewer Needed":        func(d *api.Dyn) { d.Needed = d.Needed[:1] },
		"no Needed":               func(d *api.Dyn) { d.Needed = nil },
		"Needed in another order": func(d *api.Dyn) { slices.Reverse(d.Needed) },
		"Soname":                  func(d *api.Dyn) { d.Soname += "\x00" },
		"no Soname":               func(d *api.Dyn) { d.Soname = "" },
		"Table's Syms":            func(d *api.Dyn) { d.Table.Syms += "x" },
		"Table's Strs":            func(d *api.Dyn) { d.Table.Strs = d.Table.Strs[1:] },
		"Table's Hash":            func(d *api.Dyn) { d.Table.Hash = "" },
		"a Sym's Name":            func(d *api.Dyn) { d.Syms[2].Name = "Count" },
		"a Sym's Value":           func(d *api.Dyn) { d.Syms[2].Value++ },
		"a Sym's Size":            func(d *api.Dyn) { d.Syms[1].Size++ },
		"a Sym's Bind":            func(d *api.Dyn) { d.Syms[0].Bind-- },
		"a Sym's Part":            func(d *api.Dyn) { d.Syms[0].Part++ },
		"one more Sym":            func(d *api.Dyn) { d.Syms = append(d.Syms, api.Sym{}) },
		"no Syms":                 func(d *api.Dyn) { d.Syms = nil },
		"Syms in another order":   func(d *api.Dyn) { slices.Reverse(d.Syms) },
		"a Rel's At":              func(d *api.Dyn) { d.Rels[0].At++ },
		"a Rel's Kind":            func(d *api.Dyn) { d.Rels[1].Kind++ },
		"a Rel's Sym":             func(d *api.Dyn) { d.Rels[2].Sym-- },
		"one more Rel":            func(d *api.Dyn) { d.Rels = append(d.Rels, api.Rel{}) },
		"no Rels":                 func(d *api.Dyn) { d.Rels = nil },
		"Rels in another order":   func(d *api.Dyn) { slices.Reverse(d.Rels) },
		"Got":                     func(d *api.Dyn) { d.Got++ },
		"Own":                     func(d *api.Dyn) { d.Own = -d.Own },
		"First":                   func(d *api.Dyn) { d.First++ },
		"Init":                    func(d *api.Dyn) { d.Init = 0 },
	} {
		d := sampleDyn()
		change(&d)
		if Same(d, sampleDyn()) || Same(sampleDyn(), d) {
			t.Errorf("%s: others are the same", name)
		}
		if again := sampleDyn(); !Same(d, d) || !Same(again, sampleDyn()) {
			t.Errorf("%s: one is not the same as itself", name)
		}
	}
}

// 0.5: what is told is new memory, and what is given stays.
func TestOwnMemory(t *testing.T) {
	s := sample().file()
	m, _ := image.Parse(s)
	again, _ := image.Parse(s)
	a, _ := Parse(m, s)
	b, _ := Parse(m, s)
	clear(a.Needed[:cap(a.Needed)])
	clear(a.Syms[:cap(a.Syms)])
	clear(a.Rels[:cap(a.Rels)])
	if !equal(b, sampleDyn()) {
		t.Errorf("two answers share memory: %v", b)
	}
	if Same(a, b); !reflect.DeepEqual(m, again) || !equal(b, sampleDyn()) {
		t.Errorf("what was given changed: %v, %v", m, b)
	}
	given := b
	given.Needed = append(make([]string, 0, 9), b.Needed...)
	if Same(given, sampleDyn()); !equal(given, sampleDyn()) {
		t.Errorf("what was given changed: %v", given)
	}
}
