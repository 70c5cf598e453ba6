package dyn

import (
	"encoding/binary"
	"maps"
	"slices"
	"strings"
	"testing"

	"ferry/api"
	"ferry/elf"
	"ferry/image"
	"ferry/names"
)

// Where the parts of a sketch's file are in memory, as long as nothing else is asked. Behind the file's bytes of the first segment are bytes 0; where that segment ends, the second one begins, all of which is in the file.
const (
	base     = 0x400000
	tagsAt   = base + 0x400
	hashAt   = base + 0x800
	symsAt   = base + 0x1000
	strsAt   = base + 0x2000
	relsAt   = base + 0x3800
	gotAt    = base + 0x3c00
	bytesEnd = base + 0x4000
	second   = base + 0x5000
	imageEnd = second + 0x1800
	rowLen   = 8
)

// row is a tag and its value, or a relocation's numbers.
type row [2]uint32

// sketch is what a file is made of: its table, and the bytes that it has elsewhere.
type sketch struct {
	rows  []row
	bytes map[uint32]string
}

// words is numbers of 4 bytes, the highest byte first.
func words(all ...uint32) string {
	var out []byte
	for _, v := range all {
		out = binary.BigEndian.AppendUint32(out, v)
	}
	return string(out)
}

// rowsOf is rows as bytes.
func rowsOf(all ...row) string {
	var out strings.Builder
	for _, r := range all {
		out.WriteString(words(r[0], r[1]))
	}
	return out.String()
}

func sampleSyms() []api.Sym {
	return []api.Sym{
		{Name: "main", Value: base + 0x3e00, Size: 8, Bind: api.SyGlobal, Part: api.PtCode},
		{Name: "puts", Bind: api.SyGlobal},
		{Name: "count", Value: gotAt + 64, Size: 4, Bind: api.SyWeak, Part: api.PtData},
	}
}

// sampleStrs is the names of sampleSyms, each symbol's at 1, 6 and 11, and others at 17, 25 and 33.
const sampleStrs = "\x00main\x00puts\x00count\x00libc.so\x00libm.so\x00me.so\x00"

// sample is a table with all tags, and some that are passed over.
func sample() sketch {
	table := names.Write(sampleSyms(), 3)
	return sketch{
		rows: []row{
			{1, 25}, {14, 33}, {4, hashAt}, {5, strsAt}, {6, symsAt}, {17, relsAt}, {10, uint32(len(sampleStrs))}, {18, 24},
			{11, 16}, {19, 8}, {12, base + 0x3e04}, {1, 17}, {3, gotAt}, {0x7000000a, 3}, {0x70000011, 4}, {0x70000013, 2}, {0, 0},
		},
		bytes: map[uint32]string{
			hashAt: table.Hash,
			symsAt: table.Syms,
			strsAt: sampleStrs,
			relsAt: rowsOf(row{gotAt + 64, 0x303}, row{gotAt + 61, 0}, row{0xffffffff, 0x103}),
			gotAt:  words(0, 1<<31, base+0x3e08, 0, gotAt+64),
		},
	}
}

// sampleDyn is what sample is.
func sampleDyn() api.Dyn {
	table := names.Write(sampleSyms(), 3)
	table.Strs = sampleStrs
	return api.Dyn{
		Needed: []string{"libm.so", "libc.so"}, Soname: "me.so", Table: table, Syms: sampleSyms(),
		Rels: []api.Rel{{At: gotAt + 64, Kind: api.RlRel32, Sym: 3}, {At: gotAt + 61}, {At: 0xffffffff, Kind: api.RlRel32, Sym: 1}},
		Got:  gotAt, Own: 3, First: 2, Init: base + 0x3e04,
	}
}

// bare is a table with the tags alone that must be there, and no symbols.
func bare() sketch {
	return sketch{
		rows:  []row{{4, hashAt}, {5, strsAt}, {6, symsAt}, {10, 1}, {0x70000011, 1}, {0, 0}},
		bytes: map[uint32]string{hashAt: words(1, 1, 0, 0)},
	}
}

// bareDyn is what bare is.
func bareDyn() api.Dyn {
	return api.Dyn{Table: api.Table{Syms: strings.Repeat("\x00", 16), Strs: "\x00", Hash: words(1, 1, 0, 0)}}
}

// with is a sketch with a tag's value, at its first place, or ahead of the last row.
func (k sketch) with(tag, value uint32) sketch {
	rows := slices.Clone(k.rows)
	at := slices.IndexFunc(rows, func(r row) bool { return r[0] == tag })
	if at < 0 {
		return k.more(row{tag, value})
	}
	rows[at][1] = value
	return sketch{rows, k.bytes}
}

// more is a sketch with other rows ahead of the last one.
func (k sketch) more(rows ...row) sketch {
	return sketch{slices.Insert(slices.Clone(k.rows), len(k.rows)-1, rows...), k.bytes}
}

// without is a sketch without some tags.
func (k sketch) without(tags ...uint32) sketch {
	return sketch{slices.DeleteFunc(slices.Clone(k.rows), func(r row) bool { return slices.Contains(tags, r[0]) }), k.bytes}
}

// put is a sketch with some bytes at a place; what is a part's beginning is another part then.
func (k sketch) put(at uint32, s string) sketch {
	bytes := maps.Clone(k.bytes)
	bytes[at] = s
	return sketch{k.rows, bytes}
}

// value is a tag's value.
func (k sketch) value(tag uint32) uint32 {
	for _, r := range k.rows {
		if r[0] == tag {
			return r[1]
		}
	}
	return 0
}

// file is the sketch's file. Bytes of a part that no file has room for are left out.
func (k sketch) file() string {
	room := make([]byte, bytesEnd-base+imageEnd-second)
	lay := func(at uint32, s string) {
		for i := range len(s) {
			switch n := at + uint32(i); {
			case n >= base && n < bytesEnd:
				room[n-base] = s[i]
			case n >= second && n < imageEnd:
				room[bytesEnd-base+n-second] = s[i]
			}
		}
	}
	for _, at := range slices.Sorted(maps.Keys(k.bytes)) {
		lay(at, k.bytes[at])
	}
	size := uint32(rowLen * len(k.rows))
	lay(base, elf.Write(api.Elf{Shared: true, Entry: base + 0x3e00, Segs: []api.Seg{
		{Kind: api.SgLoad, Off: 0, At: base, Size: bytesEnd - base, Room: second - base, Prot: 5, Align: 4096},
		{Kind: api.SgDyn, Off: tagsAt - base, At: tagsAt, Size: size, Room: size, Prot: 3, Align: 4},
		{Kind: api.SgLoad, Off: bytesEnd - base, At: second, Size: imageEnd - second, Room: imageEnd - second, Prot: 3, Align: 4096},
	}}))
	lay(tagsAt, rowsOf(k.rows...))
	return string(room)
}

// parse is Parse of a sketch's file, whose image must be one.
func (k sketch) parse(t *testing.T) (api.Dyn, api.Errno) {
	t.Helper()
	s := k.file()
	m, err := image.Parse(s)
	if err != api.OK {
		t.Fatalf("the test's own file is no image: %v", err)
	}
	return Parse(m, s)
}

// tells holds Parse to what a sketch is.
func tells(t *testing.T, name string, k sketch, want api.Dyn) {
	t.Helper()
	if d, err := k.parse(t); err != api.OK || !equal(d, want) {
		t.Errorf("%s: %v, %#v, and not %#v", name, err, d, want)
	}
}

// taken holds Parse to a table of no error.
func taken(t *testing.T, name string, k sketch) api.Dyn {
	t.Helper()
	d, err := k.parse(t)
	if err != api.OK {
		t.Errorf("%s: %v", name, err)
	}
	return d
}

// refused holds Parse to ErrForm, with a relocation's kind that is none, too.
func refused(t *testing.T, name string, k sketch) {
	t.Helper()
	fails(t, name, k, api.ErrForm)
	if rels := k.bytes[relsAt]; rels != "" {
		fails(t, name+", and no kind", k.put(relsAt, rels[:7]+"\x01"+rels[8:]), api.ErrForm)
	}
}

// fails holds Parse to an error, and nothing beside it.
func fails(t *testing.T, name string, k sketch, want api.Errno) {
	t.Helper()
	if d, err := k.parse(t); err != want || !isZero(d) {
		t.Errorf("%s: %v, %#v, and not %#v", name, err, d, want)
	}
}
