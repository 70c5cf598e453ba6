package names

import (
	"slices"
	"strings"
	"testing"

	"ferry/api"
)

// global is a symbol in the code that is there for others.
func global(name string) api.Sym { return api.Sym{Name: name, Bind: api.SyGlobal, Part: api.PtCode} }

func globals(all ...string) (l []api.Sym) {
	for _, name := range all {
		l = append(l, global(name))
	}
	return l
}

// many is n symbols, of names that are not the same.
func many(n int) (l []api.Sym) {
	for i := range n {
		l = append(l, global("s"+string(rune('a'+i/26))+string(rune('a'+i%26))))
	}
	return l
}

func with(change func(*api.Sym)) []api.Sym {
	l := globals("main", "puts", "exit")
	change(&l[1])
	return l
}

// sample is symbols of each bind and each part; the second one's number is 0x72, the others' 0x61 and 0x677.
func sample() []api.Sym {
	return []api.Sym{
		{Name: "a", Value: 0x01020304, Size: 0xfffffffe, Bind: api.SyWeak, Part: api.PtData},
		{Name: "r", Value: 0, Size: 1, Bind: api.SyLocal, Part: api.PtNone},
		{Name: "a\x67", Value: 0x80000000, Size: 0, Bind: api.SyGlobal, Part: api.PtCode},
	}
}

// sampleTable is what the document says of sample with 2 ways, byte by byte: the first and the third are of the way 1, the second of the way 0.
func sampleTable() api.Table {
	return api.Table{
		Strs: "\x00a\x00r\x00ag\x00",
		Syms: strings.Repeat("\x00", 16) +
			"\x00\x00\x00\x01\x01\x02\x03\x04\xff\xff\xff\xfe\x20\x00\x00\x02" +
			"\x00\x00\x00\x03\x00\x00\x00\x00\x00\x00\x00\x01\x00\x00\x00\x00" +
			"\x00\x00\x00\x05\x80\x00\x00\x00\x00\x00\x00\x00\x10\x00\x00\x01",
		Hash: "\x00\x00\x00\x02\x00\x00\x00\x04" + "\x00\x00\x00\x02\x00\x00\x00\x01" +
			"\x00\x00\x00\x00\x00\x00\x00\x03\x00\x00\x00\x00\x00\x00\x00\x00",
	}
}

// put is a text with other bytes at a place.
func put(s string, at int, bytes string) string { return s[:at] + bytes + s[at+len(bytes):] }

// P15.1: Hash of the chapter's example, of "", of a byte, of bytes above 127, and of names whose highest 4 bits are there.
func TestHash(t *testing.T) {
	for _, c := range []struct {
		name string
		want uint32
	}{
		{"", 0},
		{"\x00", 0},
		{"\x00a", 0x61},
		{"a", 0x61},
		{"\x7f", 0x7f},
		{"\x80", 0x80},
		{"\xff", 0xff},
		{"\xff\xff", 0x10ef},
		{"é", 0xcd9},
		{"ag", 0x677},
		{"aaaaaa", 0x6777771},
		{"aaaaaaa", 0x7777711},
		{"aaaaaaaa", 0x7777101},
		{"printf", 0x077905a6},
		{"exit", 0x0006cf04},
		{"syscall", 0x0b09985c},
		{"printfp", 0x07905aa0},
	} {
		if got := Hash(c.name); got != c.want {
			t.Errorf("Hash(%q) is %#x, and not %#x", c.name, got, c.want)
		}
	}
}

// P15.1: the highest 4 bits are there behind no name, however long; a byte ahead of the last seven still counts.
func TestHashOfLongNames(t *testing.T) {
	seen := map[uint32]string{}
	for i := range 256 {
		name := string([]byte{byte(i)}) + strings.Repeat("x", 9)
		h := Hash(name)
		if h >= 1<<28 {
			t.Errorf("Hash(%q) is %#x", name, h)
		}
		seen[h] = name
	}
	if len(seen) < 16 {
		t.Errorf("but %d numbers of 256 first bytes", len(seen))
	}
	long := strings.Repeat("\xff", 65536)
	if got, want := Hash(long), modelHash(long); got != want || got >= 1<<28 {
		t.Errorf("Hash of 65536 bytes is %#x, and not %#x", got, want)
	}
}

// cases is symbols and whether they are fit, by the edges that the chapter names.
func cases() []struct {
	what string
	l    []api.Sym
	fit  bool
} {
	name := func(s string) []api.Sym { return with(func(y *api.Sym) { y.Name = s }) }
	bind := func(n int) []api.Sym { return with(func(y *api.Sym) { y.Bind = n }) }
	part := func(n int) []api.Sym { return with(func(y *api.Sym) { y.Part = n }) }
	return []struct {
		what string
		l    []api.Sym
		fit  bool
	}{
		{"no symbols", nil, true},
		{"an empty list", []api.Sym{}, true},
		{"one of each", sample(), true},
		{"200", many(200), true},
		{"201", many(201), false},
		{"200 of the same name", slices.Repeat(globals("x"), 200), true},
		{"a Name of 0 bytes", name(""), false},
		{"of 1", name("x"), true},
		{"of 31", name(strings.Repeat("x", 31)), true},
		{"of 32", name(strings.Repeat("x", 32)), false},
		{"of 31 bytes in fewer runes", name(strings.Repeat("é", 15) + "x"), true},
		{"of 32 bytes in fewer runes", name(strings.Repeat("é", 16)), false},
		{"of 65536", name(strings.Repeat("x", 65536)), false},
		{"a byte 0 alone", name("\x00"), false},
		{"a byte 0 ahead", name("\x00x"), false},
		{"a byte 0 within", name("x\x00x"), false},
		{"a byte 0 behind", name("x\x00"), false},
		{"bytes that are no text", name("\xff\x80\x01 "), true},
		{"a Bind below 0", bind(-1), false},
		{"far below 0", bind(-1 << 62), false},
		{"0", bind(0), true},
		{"2", bind(2), true},
		{"3", bind(3), false},
		{"16", bind(16), false},
		{"a Bind that is 1 in its lowest byte", bind(257), false},
		{"a Part below 0", part(-1), false},
		{"0", part(0), true},
		{"2", part(2), true},
		{"3", part(3), false},
		{"a Part that is 1 in its lowest half", part(65537), false},
		{"the greatest Value and Size", with(func(y *api.Sym) { y.Value, y.Size = 0xffffffff, 0xffffffff }), true},
		{"the last one", append(globals("main"), api.Sym{Name: "", Bind: 1, Part: 1}), false},
		{"the first one", append([]api.Sym{{Name: "x", Bind: 3}}, globals("main")...), false},
	}
}

// P15.1: Fit by the edges of all that it asks.
func TestFit(t *testing.T) {
	for _, c := range cases() {
		if got := Fit(c.l); got != c.fit {
			t.Errorf("%s: %v", c.what, got)
		}
	}
}

// P15.2: symbols that are not fit have no table; those that are have one, that Read tells again (P15.5).
func TestWriteOfFit(t *testing.T) {
	for _, c := range cases() {
		got := Write(c.l, 3)
		if !c.fit {
			if got != (api.Table{}) {
				t.Errorf("%s: a table: %q", c.what, got)
			}
			continue
		}
		if want := modelTable(c.l, 3); got != want {
			t.Errorf("%s: %q, and not %q", c.what, got, want)
		}
		if l, err := Read(got); err != api.OK || !slices.Equal(l, c.l) {
			t.Errorf("%s: Read of Write: %v, %v", c.what, l, err)
		}
	}
}

// P15.2: the bytes of a table.
func TestWrite(t *testing.T) {
	if got := Write(sample(), 2); got != sampleTable() {
		t.Errorf("%q, and not %q", got, sampleTable())
	}
	empty := api.Table{
		Strs: "\x00", Syms: strings.Repeat("\x00", 16),
		Hash: "\x00\x00\x00\x01\x00\x00\x00\x01\x00\x00\x00\x00\x00\x00\x00\x00",
	}
	if got := Write(nil, 1); got != empty {
		t.Errorf("no symbols: %q", got)
	}
}

// P15.2: several symbols of one way rise, from the first one to 0; the same name twice stands twice.
func TestWriteOneWay(t *testing.T) {
	got := Write(globals("b", "a", "b", "c"), 1)
	if want := "\x00b\x00a\x00b\x00c\x00"; got.Strs != want {
		t.Errorf("Strs: %q", got.Strs)
	}
	var places []byte
	for at := 16 + 3; at < len(got.Syms); at += 16 {
		places = append(places, got.Syms[at])
	}
	if string(places) != "\x01\x03\x05\x07" {
		t.Errorf("where the names stand: %v", places)
	}
	want := "\x00\x00\x00\x01\x00\x00\x00\x05\x00\x00\x00\x01" +
		"\x00\x00\x00\x00\x00\x00\x00\x02\x00\x00\x00\x03\x00\x00\x00\x04\x00\x00\x00\x00"
	if got.Hash != want {
		t.Errorf("Hash: %q", got.Hash)
	}
}

// P15.2: there are from 1 to 64 ways.
func TestWriteWays(t *testing.T) {
	for _, ways := range []int{-1 << 63, -1, 0, 65, 1 << 32, 1<<32 + 1, 1<<63 - 1} {
		if got := Write(sample(), ways); got != (api.Table{}) {
			t.Errorf("%d ways: %q", ways, got)
		}
	}
	for _, ways := range []int{1, 2, 63, 64} {
		if got, want := Write(sample(), ways), modelTable(sample(), ways); got != want {
			t.Errorf("%d ways: %q, and not %q", ways, got, want)
		}
	}
}

// reads fails unless Read tells these symbols.
func reads(t *testing.T, what string, table api.Table, want []api.Sym) {
	t.Helper()
	if l, err := Read(table); err != api.OK || !slices.Equal(l, want) || len(l) == 0 && l != nil {
		t.Errorf("%s: %v, %v", what, l, err)
	}
}

// refuses fails unless Read tells ErrForm and nothing; then Find tells nothing, too (P15.4).
func refuses(t *testing.T, what string, table api.Table, names ...string) {
	t.Helper()
	if l, err := Read(table); err != api.ErrForm || l != nil {
		t.Errorf("%s: %v, %v", what, l, err)
	}
	for _, name := range append(names, "a", "ag", "r", "") {
		if at, ok := Find(table, name); at != 0 || ok {
			t.Errorf("%s: Find(%q) is %d, %v", what, name, at, ok)
		}
	}
}

// P15.3: Read of so many bytes.
func TestReadLengths(t *testing.T) {
	zeros := func(n int) string { return strings.Repeat("\x00", n) }
	for _, n := range []int{0, 1, 15, 17, 31} {
		refuses(t, "bytes 0", api.Table{Syms: zeros(n), Strs: "\x00"})
	}
	reads(t, "16 bytes", api.Table{Syms: zeros(16), Strs: "\x00"}, nil)
	reads(t, "16 bytes without Strs", api.Table{Syms: zeros(16)}, nil)
	refuses(t, "32 bytes 0", api.Table{Syms: zeros(32), Strs: "\x00"})
	whole := sampleTable()
	for n := range len(whole.Syms) {
		short := whole
		short.Syms = whole.Syms[:n]
		if n%16 != 0 || n == 0 {
			refuses(t, "less bytes", short)
			continue
		}
		reads(t, "less symbols", short, sample()[:n/16-1])
	}
	most := Write(many(200), 5)
	if len(most.Syms) != 16*201 {
		t.Fatalf("200 symbols have %d bytes", len(most.Syms))
	}
	reads(t, "16 times 201", most, many(200))
	over := most
	over.Syms += most.Syms[16*200:]
	refuses(t, "16 times 202", over, "saa", "shr")
	over.Syms = most.Syms + "\x00"
	refuses(t, "16 times 201, and a byte", over, "saa")
}

// P15.3: the symbol 0 is all 0.
func TestReadSymbol0(t *testing.T) {
	for at := range 16 {
		table := sampleTable()
		table.Syms = put(table.Syms, at, "\x01")
		refuses(t, "a symbol 0 that is not all 0", table)
		table.Syms = table.Syms[:16]
		refuses(t, "a symbol 0 that is not all 0, alone", table)
	}
}

// P15.3: where a name may stand in Strs.
func TestReadNames(t *testing.T) {
	one := func(place, strs string) api.Table {
		table := Write(globals("abc"), 1)
		table.Syms, table.Strs = put(table.Syms, 16, place), strs
		return table
	}
	for _, c := range []struct{ what, place, strs, name string }{
		{"as it was written", "\x00\x00\x00\x01", "\x00abc\x00", "abc"},
		{"in the middle of another name", "\x00\x00\x00\x02", "\x00abc\x00", "bc"},
		{"at the last byte of another name", "\x00\x00\x00\x03", "\x00abc\x00", "c"},
		{"at 0, if no byte 0 is there", "\x00\x00\x00\x00", "abc\x00", "abc"},
		{"a byte 0 behind it is not the last", "\x00\x00\x00\x01", "\x00abc\x00def", "abc"},
		{"the second of two", "\x00\x00\x00\x03", "\x00a\x00b\x00", "b"},
		{"31 bytes", "\x00\x00\x00\x01", "\x00" + strings.Repeat("x", 31) + "\x00", strings.Repeat("x", 31)},
		{"behind many", "\x00\x00\xff\x00", strings.Repeat("y", 0xff00) + "abc\x00", "abc"},
	} {
		reads(t, c.what, one(c.place, c.strs), globals(c.name))
	}
	for _, c := range []struct{ what, place, strs string }{
		{"at Strs' end", "\x00\x00\x00\x05", "\x00abc\x00"},
		{"behind Strs' end", "\x00\x00\x00\x06", "\x00abc\x00"},
		{"as far as can be", "\xff\xff\xff\xff", "\x00abc\x00"},
		{"below 0, as one with a sign", "\xff\xff\xff\xfc", "\x00abc\x00"},
		{"2^31", "\x80\x00\x00\x00", "\x00abc\x00"},
		{"no Strs", "\x00\x00\x00\x00", ""},
		{"no byte 0 behind it", "\x00\x00\x00\x01", "\x00abc"},
		{"no byte 0 behind it, but one ahead", "\x00\x00\x00\x04", "abc\x00def"},
		{"a name of 0 bytes", "\x00\x00\x00\x00", "\x00abc\x00"},
		{"a name of 0 bytes, the last", "\x00\x00\x00\x04", "\x00abc\x00"},
		{"32 bytes", "\x00\x00\x00\x01", "\x00" + strings.Repeat("x", 32) + "\x00"},
		{"65534 bytes", "\x00\x00\x00\x01", "\x00" + strings.Repeat("x", 65534) + "\x00"},
	} {
		refuses(t, c.what, one(c.place, c.strs), "abc", "bc", "def")
	}
}

// P15.3: bytes of a row: Value and Size may be any, Bind and Part must be fit, the others be Write's.
func TestReadRows(t *testing.T) {
	for at := 4; at < 16; at++ {
		for v := range 256 {
			table := Write(with(func(*api.Sym) {}), 1)
			table.Syms = put(table.Syms, 32+at, string([]byte{byte(v)}))
			good := at < 12 || at == 12 && (v == 0 || v == 16 || v == 32) || at == 13 && v == 0 || at == 14 && v == 0 || at == 15 && v <= 2
			if l, err := Read(table); good != (err == api.OK) || good && Write(l, 1) != table || !good && l != nil {
				t.Errorf("%d at %d: %v, %v", v, at, l, err)
			}
			if !good {
				refuses(t, "a row that is none", table, "main", "puts")
			}
		}
	}
}

// P15.3: Read asks nothing of Hash.
func TestReadHash(t *testing.T) {
	for _, hash := range []string{"", "\x00", strings.Repeat("\xff", 100)} {
		table := sampleTable()
		table.Hash = hash
		reads(t, "another Hash", table, sample())
	}
}

// P15.5: what Read tells is its own each time, and Write leaves alone what it is given.
func TestOwnMemory(t *testing.T) {
	given := sample()
	table := Write(given, 2)
	if !slices.Equal(given, sample()) {
		t.Errorf("what was given changed: %v", given)
	}
	l, _ := Read(table)
	clear(l[:cap(l)])
	clear(given)
	reads(t, "again", table, sample())
}
