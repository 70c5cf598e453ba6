package image

import (
	"math"
	"slices"
	"strings"
	"testing"

	"ferry/api"
	"ferry/elf"
	"ferry/gmap"
	"ferry/gmem"
	"ferry/guest"
	"ferry/host"
)

const (
	size     = 4096
	hostSize = 16384
	top      = 0x70000000
	whole    = 1 << 32 // bytes of the guest's reach
	last32   = math.MaxUint32
	most     = 64 // pages of an image
)

// load is a SgLoad whose bytes are in the file as far behind a page's beginning as in memory.
func load(at, size, room uint32, prot int) api.Seg {
	return api.Seg{Kind: api.SgLoad, Off: at % 4096, At: at, Size: size, Room: room, Prot: prot, Align: 4096}
}

func dyn(at, size uint32) api.Seg {
	return api.Seg{Kind: api.SgDyn, Off: 52, At: at, Size: size, Room: size, Prot: 3, Align: 4}
}

func interpAt(off, size uint32) api.Seg {
	return api.Seg{Kind: api.SgInterp, Off: off, At: 7, Size: size, Room: size, Prot: 1, Align: 1}
}

// file is a file with a header, as long as its segments need, the rest of its bytes not 0.
func file(shared bool, segs ...api.Seg) string {
	s := elf.Write(api.Elf{Shared: shared, Entry: 0x400010, Segs: segs})
	if s == "" {
		panic("the test's own header is not fit")
	}
	end := uint32(len(s))
	for _, g := range segs {
		end = max(end, g.Off+g.Size)
	}
	out := []byte(s)
	for i := len(s); i < int(end); i++ {
		out = append(out, byte(1+(i*7+i/251)%255))
	}
	return string(out)
}

// put is a text with other bytes at a place.
func put(s string, at int, bytes string) string { return s[:at] + bytes + s[at+len(bytes):] }

func parsed(t *testing.T, s string) api.Image {
	t.Helper()
	m, e := Parse(s)
	if e != api.OK {
		t.Fatalf("Parse of the test's own file: %v", e)
	}
	return m
}

func same(a, b api.Image) bool {
	return elf.Same(a.Elf, b.Elf) && a.Low == b.Low && a.High == b.High && a.Interp == b.Interp && a.DynAt == b.DynAt && a.DynLen == b.DynLen
}

// parses fails unless Parse tells an image from low up to high.
func parses(t *testing.T, what, s string, low, high uint32) {
	t.Helper()
	m, e := Parse(s)
	if e != api.OK || m.Low != low || m.High != high {
		t.Errorf("%s: from %#x up to %#x, %v; want %#x up to %#x", what, m.Low, m.High, e, low, high)
	}
}

// refuses fails unless Parse tells an error, and a zero image.
func refuses(t *testing.T, what, s string, want api.Errno) {
	t.Helper()
	m, e := Parse(s)
	if e != want {
		t.Errorf("%s: %v; want %v", what, e, want)
	}
	if !same(m, api.Image{}) || m.Elf.Segs != nil {
		t.Errorf("%s: %v beside an error", what, m)
	}
}

// sampleSegs are of each kind: code in one page and a bit, data in two pages with bytes 0 behind.
func sampleSegs() []api.Seg {
	return []api.Seg{
		interpAt(200, 14),
		{Kind: api.SgLoad, Off: 0, At: 0x400000, Size: 5000, Room: 5000, Prot: 5, Align: 4096},
		{Kind: api.SgDyn, Off: 240, At: 0x4000f0, Size: 64, Room: 64, Prot: 3, Align: 4},
		{Kind: api.SgLoad, Off: 5000, At: 0x403388, Size: 100, Room: 4000, Prot: 3, Align: 4096},
	}
}

// sample is a file of these.
func sample(shared bool) string { return put(file(shared, sampleSegs()...), 200, "/lib/ld.so.1a\x00") }

// empty is a space without pages, whose memory is not at the host's beginning.
func empty() api.Space {
	return api.Space{Guest: api.Guest{Base: whole}, Start: 0x500000, End: 0x500000}
}

func cloned(s api.Space) api.Space {
	s.Guest.Pages = slices.Clone(s.Guest.Pages)
	s.Guest.Host = api.Host{Maps: slices.Clone(s.Guest.Host.Maps), Cells: slices.Clone(s.Guest.Host.Cells)}
	return s
}

func equal(a, b api.Space) bool {
	return a.Start == b.Start && a.End == b.End && a.Guest.Base == b.Guest.Base && slices.Equal(a.Guest.Pages, b.Guest.Pages) &&
		slices.Equal(a.Guest.Host.Maps, b.Guest.Host.Maps) && slices.Equal(a.Guest.Host.Cells, b.Guest.Host.Cells)
}

// withPages is a space with n pages from first on, whose bytes are not 0 where each begins and where it ends.
func withPages(t *testing.T, s api.Space, first, n uint32, prot int) api.Space {
	t.Helper()
	g, e := guest.Map(s.Guest, first, n, prot)
	if e != api.OK {
		t.Fatalf("guest.Map of page %#x, %d: %v", first, n, e)
	}
	for p := first; p < first+n; p++ {
		g = poked(t, g, p*size, "ab")
		g = poked(t, g, p*size+size-2, "yz")
	}
	s.Guest = g
	return s
}

func poked(t *testing.T, g api.Guest, at uint32, s string) api.Guest {
	t.Helper()
	g, f := gmem.Poke(g, at, s)
	if f != (api.Fault{}) {
		t.Fatalf("gmem.Poke at %#x: %v", at, f)
	}
	return g
}

// crowded has so many pages of the host mapped out of the guest's reach that just some are left.
func crowded(s api.Space, left int) api.Space {
	s = cloned(s)
	for i := range 64 - left - len(s.Guest.Host.Maps) {
		s.Guest.Host.Maps = append(s.Guest.Host.Maps, api.Map{Page: (s.Guest.Base+whole)/hostSize + uint64(i), Prot: 1})
	}
	return s
}

// byteAt is a byte of the guest's, whatever may be done with it.
func byteAt(g api.Guest, a uint32) byte {
	v, _ := host.Load(g.Host, guest.Place(g, a), 1)
	return byte(v)
}

// loads fails unless Load puts an image there just as Bytes tells it, each page with its segment's Prot, and leaves all else.
func loads(t *testing.T, what string, p api.Space, s string, moved uint32) api.Space {
	t.Helper()
	m, before := parsed(t, s), cloned(p)
	got, e := Load(p, m, s, moved)
	if e != api.OK || !gmap.Fit(got) || got.Start != p.Start || got.End != p.End {
		t.Errorf("%s: Load: %v, pages %v, fit %v", what, e, got.Guest.Pages, gmap.Fit(got))
		return got
	}
	without := got
	for _, g := range m.Elf.Segs {
		if g.Kind == api.SgLoad {
			first, last := (g.At+moved)/size, (g.At+moved+g.Room-1)/size
			isThere(t, what, m, s, got, g, moved)
			without.Guest, e = guest.Unmap(without.Guest, first, last-first+1)
			if e != api.OK {
				t.Errorf("%s: guest.Unmap: %v", what, e)
			}
		}
	}
	if !equal(without, before) {
		t.Errorf("%s: other pages changed: %v; want %v", what, without.Guest.Pages, before.Guest.Pages)
	}
	if !equal(p, before) {
		t.Errorf("%s: what was given changed", what)
	}
	return got
}

// isThere fails unless all pages of a SgLoad are there, with its bytes.
func isThere(t *testing.T, what string, m api.Image, s string, p api.Space, g api.Seg, moved uint32) {
	t.Helper()
	from, to := g.At&^(size-1), (g.At+g.Room+size-1)&^(size-1)
	for a := from; a < to; a++ {
		want := byte(0)
		if a >= g.At && a < g.At+g.Room {
			told, ok := Bytes(m, s, a, 1)
			if !ok || len(told) != 1 {
				t.Fatalf("%s: Bytes at %#x: %q, %v", what, a, told, ok)
			}
			want = told[0]
		}
		if a-g.At < g.Size && want != s[g.Off+a-g.At] {
			t.Fatalf("%s: Bytes at %#x: %d; the file has another", what, a, want)
		}
		if got := byteAt(p.Guest, a+moved); got != want {
			t.Fatalf("%s: the byte at %#x is %d; want %d", what, a+moved, got, want)
		}
		if prot := guest.Prot(p.Guest, (a+moved)/size); prot != g.Prot {
			t.Fatalf("%s: page %#x has Prot %d; want %d", what, (a+moved)/size, prot, g.Prot)
		}
	}
}

// fails fails unless Load tells an error, and the space as it was.
func fails(t *testing.T, what string, p api.Space, s string, moved uint32, want api.Errno) {
	t.Helper()
	m, before := parsed(t, s), cloned(p)
	got, e := Load(p, m, s, moved)
	if e != want {
		t.Errorf("%s: Load, moved by %#x: %v; want %v", what, moved, e, want)
	}
	if !equal(got, before) || !equal(p, before) {
		t.Errorf("%s: Load, moved by %#x: the space changed", what, moved)
	}
}

// P14.1, P14.4: the chapter's example.
func TestExample(t *testing.T) {
	s := file(false, load(0x400000, 4, 5000, 5))
	m, e := Parse(s)
	if e != api.OK || m.Low != 0x400000 || m.High != 0x402000 || m.Interp != "" || m.DynAt != 0 || m.DynLen != 0 {
		t.Errorf("Parse: %v, %v", m, e)
	}
	p, e := Load(api.Space{}, m, s, 0)
	if e != api.OK || !slices.Equal(p.Guest.Pages, []api.Page{{N: 0x400, Prot: 5}, {N: 0x401, Prot: 5}}) {
		t.Errorf("Load: %v, %v", p.Guest.Pages, e)
	}
	if got, f := gmem.Bytes(p.Guest, 0x400000, 8192); f != (api.Fault{}) || got != "\x7fELF"+strings.Repeat("\x00", 8188) {
		t.Errorf("Load: %q, %v", got, f)
	}
	loads(t, "the example", api.Space{}, s, 0)
}

// P14.1: the image of a file with segments of each kind.
func TestParse(t *testing.T) {
	for _, shared := range []bool{false, true} {
		s := sample(shared)
		want := api.Image{
			Elf: api.Elf{Shared: shared, Entry: 0x400010, Segs: sampleSegs()},
			Low: 0x400000, High: 0x405000, Interp: "/lib/ld.so.1a", DynAt: 0x4000f0, DynLen: 64,
		}
		if m, e := Parse(s); e != api.OK || !same(m, want) {
			t.Errorf("Parse: %v, %v; want %v", m, e, want)
		}
		if m, e := Parse(s + "more"); e != api.OK || !same(m, want) {
			t.Errorf("Parse with bytes behind: %v, %v; want %v", m, e, want)
		}
	}
	segs := sampleSegs()
	slices.Reverse(segs[:3]) // the table, and who loads it, behind the SgLoad
	m, e := Parse(put(file(true, segs...), 200, "/lib/ld.so.1a\x00"))
	if e != api.OK || m.Interp != "/lib/ld.so.1a" || m.DynAt != 0x4000f0 || m.DynLen != 64 {
		t.Errorf("in another order: %v, %v", m, e)
	}
}

// P14.1: elf.Parse's errors, ahead of those of the image.
func TestParseElfErrors(t *testing.T) {
	s := sample(true)
	refuses(t, "no bytes", "", api.ErrShort)
	refuses(t, "51 bytes", s[:51], api.ErrShort)
	refuses(t, "an end within the segments", s[:52+100], api.ErrShort)
	refuses(t, "another magic", put(s, 1, "e"), api.ErrMagic)
	refuses(t, "another type", put(s, 17, "\x04"), api.ErrForm)
	refuses(t, "a kind that is none", put(s, 55, "\x07"), api.ErrForm)
	refuses(t, "17 segments", put(s, 45, "\x11"), api.ErrForm)
	refuses(t, "an end within a segment's bytes", s[:len(s)-1], api.ErrRange)
	far := dyn(8192, 8)
	far.Off = 500
	none := file(false, far, far)
	refuses(t, "no image either", none, api.ErrForm)
	refuses(t, "no image either, and a range", none[:507], api.ErrRange)
}

// P14.1: SgLoads that are there, have room, and rise page by page.
func TestParseLoads(t *testing.T) {
	refuses(t, "no segments", file(false), api.ErrForm)
	refuses(t, "no SgLoad", put(file(true, interpAt(300, 2)), 300, "a\x00"), api.ErrForm)
	refuses(t, "a Room of 0", file(false, load(0x400000, 0, 0, 5)), api.ErrForm)
	refuses(t, "a Room of 0 at 0", file(false, load(0, 0, 0, 5)), api.ErrForm)
	refuses(t, "a Room of 0 within a page", file(false, load(0x400123, 0, 0, 5)), api.ErrForm)
	refuses(t, "a second Room of 0", file(false, load(0x400000, 4, 9, 5), load(0x402000, 0, 0, 5)), api.ErrForm)
	refuses(t, "a first Room of 0", file(false, load(0x400000, 0, 0, 5), load(0x402000, 4, 9, 5)), api.ErrForm)
	parses(t, "a Room of 1", file(false, load(0x400000, 0, 1, 5)), 0x400000, 0x401000)
	parses(t, "a Room of 1 at a page's last byte", file(false, load(0x400fff, 0, 1, 5)), 0x400000, 0x401000)
	parses(t, "a Room of 2 at a page's last byte", file(false, load(0x400fff, 1, 2, 5)), 0x400000, 0x402000)
	parses(t, "a whole page", file(false, load(0x400000, 4, 4096, 5)), 0x400000, 0x401000)
	parses(t, "a page and a byte", file(false, load(0x400000, 4, 4097, 5)), 0x400000, 0x402000)
	parses(t, "up to the end of its page", file(false, load(0x400010, 4, 4080, 5)), 0x400000, 0x401000)
	parses(t, "one behind the end of its page", file(false, load(0x400010, 4, 4081, 5)), 0x400000, 0x402000)
	parses(t, "at 0", file(true, load(0, 4, 4, 5)), 0, 0x1000)
	parses(t, "at 0, and a second one", file(true, load(0, 4, 4, 5), load(0x1000, 4, 4, 5)), 0, 0x2000)
	refuses(t, "at 0, and once more", file(true, load(0, 4, 4, 5), load(8, 4, 4, 5)), api.ErrForm)

	parses(t, "a next page", file(false, load(0x400000, 4, 4096, 5), load(0x401000, 4, 9, 3)), 0x400000, 0x402000)
	parses(t, "pages between", file(false, load(0x400fff, 1, 1, 5), load(0x405fff, 1, 2, 3), load(0x409000, 1, 1, 1)), 0x400000, 0x40a000)
	refuses(t, "a page of two", file(false, load(0x400000, 4, 9, 5), load(0x400800, 4, 9, 3)), api.ErrForm)
	refuses(t, "a last page of two", file(false, load(0x400000, 4, 4097, 5), load(0x401002, 4, 9, 3)), api.ErrForm)
	refuses(t, "a page of two by its last bytes", file(false, load(0x400000, 4, 4095, 5), load(0x400fff, 1, 1, 3)), api.ErrForm)
	refuses(t, "the same twice", file(false, load(0x400000, 4, 9, 5), load(0x400000, 4, 9, 5)), api.ErrForm)
	refuses(t, "pages that fall", file(false, load(0x401000, 4, 9, 5), load(0x400000, 4, 9, 3)), api.ErrForm)
	refuses(t, "a third one that falls", file(false, load(0x401000, 4, 9, 5), load(0x405000, 4, 9, 3), load(0x403000, 4, 9, 3)), api.ErrForm)
	refuses(t, "a second one within the first", file(false, load(0x400000, 4, 0x5000, 5), load(0x402000, 4, 9, 3)), api.ErrForm)

	var many []api.Seg
	for i := range uint32(16) {
		many = append(many, load(0x400000+i*4*size, 10, 3*size, 7))
	}
	parses(t, "16 SgLoads", file(true, many...), 0x400000, 0x43f000)
}

// P14.1: High less Low is at most MaxImage, and High is below 2^32.
func TestParseExtent(t *testing.T) {
	parses(t, "64 pages", file(false, load(0x400000, 4, most*size, 5)), 0x400000, 0x440000)
	parses(t, "63 pages and a byte", file(false, load(0x400000, 4, (most-1)*size+1, 5)), 0x400000, 0x440000)
	refuses(t, "64 pages and a byte", file(false, load(0x400000, 4, most*size+1, 5)), api.ErrForm)
	refuses(t, "65 pages", file(false, load(0x400000, 4, (most+1)*size, 5)), api.ErrForm)
	parses(t, "64 pages, of which one is begun late", file(false, load(0x400fff, 1, (most-1)*size+1, 5)), 0x400000, 0x440000)
	refuses(t, "65 pages, of which two are begun", file(false, load(0x400fff, 1, (most-1)*size+2, 5)), api.ErrForm)
	refuses(t, "nearly all addresses", file(false, load(0, 4, last32, 5)), api.ErrForm)
	parses(t, "64 pages with a gap", file(false, load(0x400800, 1, 1, 5), load(0x43f010, 4, 9, 3)), 0x400000, 0x440000)
	refuses(t, "65 pages with a gap", file(false, load(0x400800, 1, 1, 5), load(0x440010, 4, 9, 3)), api.ErrForm)
	refuses(t, "65 pages by the last one's Room", file(false, load(0x400800, 1, 1, 5), load(0x43f010, 4, 4081, 3)), api.ErrForm)

	parses(t, "the last page below 2^32", file(true, load(0xffffe000, 4, 4096, 5)), 0xffffe000, 0xfffff000)
	parses(t, "64 pages below it", file(true, load(0xfffbf000, 4, most*size, 5)), 0xfffbf000, 0xfffff000)
	refuses(t, "High 2^32", file(true, load(0xfffff000, 4, 4, 5)), api.ErrForm)
	refuses(t, "High 2^32 by one byte", file(true, load(0xffffe000, 4, 4097, 5)), api.ErrForm)
	refuses(t, "High 2^32 by the last byte that there can be", file(true, load(0xfffff000, 4, 4095, 5)), api.ErrForm)
	refuses(t, "High 2^32 by the second one", file(true, load(0xffffe000, 4, 4, 5), load(0xfffff000, 4, 4, 5)), api.ErrForm)
	parses(t, "High 2^31", file(false, load(0x7ffff000, 4, 4, 5)), 0x7ffff000, 0x80000000)
}

// P14.1: SgInterp's bytes, and that there are no two.
func TestParseInterp(t *testing.T) {
	with := func(bytes string) string {
		return put(file(true, load(0x400000, 4, 9, 5), interpAt(300, uint32(len(bytes)))), 300, bytes)
	}
	for what, name := range map[string]string{
		"2 bytes": "a", "3 bytes": "ab", "255 bytes": strings.Repeat("c", 254), "256 bytes": strings.Repeat("d", 255), "bytes that are no text": "\xff\x80\n",
	} {
		if m, e := Parse(with(name + "\x00")); e != api.OK || m.Interp != name {
			t.Errorf("%s: %q, %v", what, m.Interp, e)
		}
	}
	refuses(t, "no bytes", with(""), api.ErrForm)
	refuses(t, "1 byte", with("\x00"), api.ErrForm)
	refuses(t, "1 byte, not 0", with("a"), api.ErrForm)
	refuses(t, "257 bytes", with(strings.Repeat("e", 256)+"\x00"), api.ErrForm)
	refuses(t, "4096 bytes", with(strings.Repeat("e", 4095)+"\x00"), api.ErrForm)
	refuses(t, "no byte 0", with("abc"), api.ErrForm)
	refuses(t, "256 bytes, no byte 0", with(strings.Repeat("f", 256)), api.ErrForm)
	refuses(t, "two bytes 0 at the end", with("ab\x00\x00"), api.ErrForm)
	refuses(t, "two bytes 0 alone", with("\x00\x00"), api.ErrForm)
	refuses(t, "a byte 0 at the beginning", with("\x00ab\x00"), api.ErrForm)
	refuses(t, "a byte 0 within", with("ab\x00cd\x00"), api.ErrForm)
	refuses(t, "a byte 0 within alone", with("ab\x00cd"), api.ErrForm)
	refuses(t, "a byte 0 behind its bytes", with("ab")+"\x00", api.ErrForm)

	one := api.Seg{Kind: api.SgInterp, Off: 300, Size: 3, Room: 500}
	if m, e := Parse(put(file(true, load(0x400000, 4, 9, 5), one), 300, "ab\x00")); e != api.OK || m.Interp != "ab" {
		t.Errorf("more room than bytes: %q, %v", m.Interp, e)
	}
	refuses(t, "two", put(file(true, interpAt(300, 3), load(0x400000, 4, 9, 5), interpAt(300, 3)), 300, "ab\x00"), api.ErrForm)
	refuses(t, "two, of which the last is one", put(file(true, load(0x400000, 4, 9, 5), interpAt(300, 2), interpAt(300, 3)), 300, "ab\x00"), api.ErrForm)
}

// P14.1: SgDyn's bytes, and that there are no two.
func TestParseDyn(t *testing.T) {
	with := func(segs ...api.Seg) string {
		return file(true, append(segs, load(0x400010, 400, 800, 5), load(0x401000, 64, 64, 5), load(0x402000, 0, 900, 3))...)
	}
	for what, g := range map[string]api.Seg{
		"at the first byte": dyn(0x400010, 8), "all bytes": dyn(0x400010, 400), "at the last bytes": dyn(0x400198, 8), "no multiple of 4": dyn(0x400011, 392),
		"of the second": dyn(0x401000, 64), "the second's last bytes": dyn(0x401038, 8), "more room than bytes": {Kind: api.SgDyn, At: 0x401038, Size: 8, Room: 0x10000},
		"elsewhere in the file": {Kind: api.SgDyn, Off: 16, At: 0x401000, Size: 16, Room: 16},
	} {
		m, e := Parse(with(g))
		if e != api.OK || m.DynAt != g.At || m.DynLen != g.Size {
			t.Errorf("%s: %#x, %d, %v", what, m.DynAt, m.DynLen, e)
		}
	}
	for what, g := range map[string]api.Seg{
		"outside each": dyn(0x500000, 8), "below all": dyn(0x1000, 8), "at 0": dyn(0, 8), "one byte ahead": dyn(0x40000f, 8), "one byte behind": dyn(0x400199, 8), "more bytes than there are": dyn(0x400010, 408),
		"behind the file's bytes": dyn(0x4001a0, 8), "in what does not come from the file": dyn(0x400200, 8), "in one that has nothing of the file": dyn(0x402000, 8), "between both": dyn(0x400400, 8),
		"behind the second's bytes": dyn(0x401040, 8), "across the second's end": dyn(0x401038, 16), "at the end of addresses": dyn(0xfffffff0, 8),
		"Size 0": dyn(0x400010, 0), "Size 0 outside each": dyn(0x500000, 0), "Size 1": dyn(0x400010, 1), "Size 4": dyn(0x400010, 4), "Size 7": dyn(0x400010, 7), "Size 9": dyn(0x400010, 9), "Size 12": dyn(0x400010, 12), "Size 60": dyn(0x401000, 60),
	} {
		refuses(t, what, with(g), api.ErrForm)
	}
	next := []api.Seg{load(0x400000, 4096, 4096, 5), load(0x401000, 64, 64, 5)}
	refuses(t, "across two", file(true, append(next, dyn(0x400ff8, 16))...), api.ErrForm)
	if m, e := Parse(file(true, append(next, dyn(0x400ff8, 8))...)); e != api.OK || m.DynAt != 0x400ff8 {
		t.Errorf("up to the second: %#x, %v", m.DynAt, e)
	}
	refuses(t, "two", with(dyn(0x400010, 8), dyn(0x400018, 8)), api.ErrForm)
	refuses(t, "the same twice", with(dyn(0x400010, 8), dyn(0x400010, 8)), api.ErrForm)
	refuses(t, "two, of which the last is one", with(dyn(0x500000, 8), dyn(0x400018, 8)), api.ErrForm)
}

// P14.2: bytes that are in one SgLoad: the file's, and 0 behind its Size.
func TestBytes(t *testing.T) {
	s := file(true, dyn(0x400010, 8), load(0x400010, 400, 800, 5), load(0x401000, 4096, 4096, 0), load(0x402000, 64, 5*size*4, 3))
	m := parsed(t, s)
	zeros := func(n int) string { return strings.Repeat("\x00", n) }
	for _, row := range []struct {
		what  string
		at, n uint32
		want  string
	}{
		{"the first byte", 0x400010, 1, s[16:17]}, {"some bytes", 0x400020, 40, s[32:72]}, {"all of the file's", 0x400010, 400, s[16:416]}, {"the last of the file's", 0x40019f, 1, s[415:416]},
		{"across the end of Size", 0x400190, 32, s[400:416] + zeros(16)}, {"one behind Size", 0x400010, 401, s[16:416] + "\x00"}, {"from the end of Size on", 0x4001a0, 5, zeros(5)}, {"behind Size", 0x400200, 99, zeros(99)},
		{"up to the end of Room", 0x400010, 800, s[16:416] + zeros(400)}, {"the last byte", 0x40032f, 1, "\x00"},
		{"the second's first byte", 0x401000, 1, s[:1]}, {"all of the second's", 0x401000, 4096, s[:4096]}, {"the second's last byte", 0x401fff, 1, s[4095:4096]},
		{"the third's", 0x402000, 65, s[:64] + "\x00"}, {"65536", 0x402000, 65536, s[:64] + zeros(65472)}, {"65536, later", 0x402020, 65536, s[32:64] + zeros(65504)}, {"up to the third's end", 0x415fff, 1, "\x00"},
		{"no bytes", 0x400010, 0, ""}, {"no bytes within", 0x400100, 0, ""}, {"no bytes behind Size", 0x400300, 0, ""}, {"no bytes at the end of Room", 0x400330, 0, ""}, {"no bytes at the second", 0x401000, 0, ""},
	} {
		if got, ok := Bytes(m, s, row.at, row.n); !ok || got != row.want {
			t.Errorf("%s: Bytes at %#x, %d: %q, %v; want %q", row.what, row.at, row.n, got, ok, row.want)
		}
	}
	for _, row := range []struct {
		what  string
		at, n uint32
	}{
		{"one behind Room", 0x400010, 801}, {"the byte behind Room", 0x400330, 1}, {"across the end of Room", 0x40032f, 2}, {"one ahead", 0x40000f, 2}, {"the byte ahead", 0x40000f, 1}, {"its page's beginning", 0x400000, 4},
		{"across two", 0x401ffc, 8}, {"both", 0x401000, 4097}, {"from one up to another", 0x400010, 0x1000}, {"65537", 0x402000, 65537}, {"65537, of which some are in none", 0x410000, 65537}, {"very many", 0x402000, last32},
		{"the third's end", 0x415fff, 2}, {"behind all", 0x416000, 1}, {"outside each", 0x500000, 4}, {"below all", 0x3fffff, 1}, {"at 0", 0, 1}, {"at 0, many", 0, 65536},
		{"the last address", last32, 1}, {"round past 2^32", last32, 2}, {"round past 2^32, many", 0xfffffff0, 65536}, {"round past 2^32 to one", 0xffffffff, last32}, {"round to one's end", 0x400020, last32},
		{"no bytes outside each", 0x500000, 0}, {"no bytes ahead", 0x40000f, 0}, {"no bytes behind Room", 0x400331, 0}, {"no bytes at the last address", last32, 0}, {"no bytes at 0", 0, 0},
	} {
		if got, ok := Bytes(m, s, row.at, row.n); ok || got != "" {
			t.Errorf("%s: Bytes at %#x, %d: %q, %v", row.what, row.at, row.n, got, ok)
		}
	}
}

// P14.2: bytes of an image at either end of the addresses.
func TestBytesAtTheEnds(t *testing.T) {
	s := file(true, load(0xffffe000, 60, 4096, 5))
	m := parsed(t, s)
	if got, ok := Bytes(m, s, 0xffffe000, 4096); !ok || got != s[:60]+strings.Repeat("\x00", 4036) {
		t.Errorf("all of it: %q, %v", got, ok)
	}
	for _, row := range [][2]uint32{{0xffffe000, 4097}, {0xffffefff, 2}, {0xfffff000, 1}, {last32, 1}, {0xffffe001, last32}, {0xffffe004, 65536}, {0xffffdfff, 1}} {
		if got, ok := Bytes(m, s, row[0], row[1]); ok || got != "" {
			t.Errorf("Bytes at %#x, %d: %q, %v", row[0], row[1], got, ok)
		}
	}
	s = file(true, load(0, 60, 61, 5))
	m = parsed(t, s)
	if got, ok := Bytes(m, s, 0, 61); !ok || got != s[:60]+"\x00" {
		t.Errorf("at 0: %q, %v", got, ok)
	}
	if got, ok := Bytes(m, s, last32, 2); ok || got != "" {
		t.Errorf("round past 2^32: %q, %v", got, ok)
	}
}

// P14.3: how far an image can be moved: to where gmap.Mmap finds room for all from Low up to High.
func TestRoom(t *testing.T) {
	low := parsed(t, file(true, load(0, 4, 9, 5), load(0x2fff, 1, 1, 3)))
	high := parsed(t, file(true, load(0xffffc000, 4, 4096, 5), load(0xffffe000, 4, 9, 3)))
	inRoom := parsed(t, file(true, load(top-3*size, 4, 3*size, 5)))
	for _, row := range []struct {
		what  string
		p     api.Space
		m     api.Image
		moved uint32
	}{
		{"an empty space", empty(), low, top - 3*size}, {"a zero space", api.Space{}, low, top - 3*size}, {"from high up", empty(), high, 0x70001000}, {"where it is", empty(), inRoom, 0}, {"though there is room where it is", empty(), parsed(t, sample(true)), top - 5*size - 0x400000},
		{"below a page", withPages(t, empty(), top/size-1, 1, 3), low, top - 4*size}, {"below a page, less than where it is", withPages(t, empty(), top/size-1, 1, 3), inRoom, last32 - 4095},
		{"a page in the gap", withPages(t, empty(), top/size-2, 1, 3), low, top - 5*size},
		{"room between pages", withPages(t, withPages(t, empty(), top/size-1, 1, 3), top/size-5, 1, 3), low, top - 4*size},
		{"below the heap", api.Space{Start: top - 2*size, End: top}, low, top - 5*size}, {"all pages but three", withPages(t, withPages(t, empty(), 0x50000, 252, 3), top/size-4, 1, 3), low, top - 3*size},
	} {
		before := cloned(row.p)
		if moved, e := Room(row.p, row.m); moved != row.moved || e != api.OK {
			t.Errorf("%s: Room: %#x, %v; want %#x", row.what, moved, e, row.moved)
		}
		if !equal(row.p, before) {
			t.Errorf("%s: what was given changed", row.what)
		}
	}
	fixed := parsed(t, file(false, load(0x400000, 4, 9, 5)))
	for _, row := range []struct {
		what string
		p    api.Space
		m    api.Image
		want api.Errno
	}{
		{"not shared", empty(), fixed, api.ErrForm}, {"not shared, and no room", api.Space{Start: size, End: top}, fixed, api.ErrForm},
		{"no room beside the heap", api.Space{Start: 3 * size, End: top}, low, api.ErrMem}, {"too many pages", withPages(t, empty(), 0x50000, 254, 3), low, api.ErrMem},
		{"no page of the host", crowded(empty(), 0), low, api.ErrFull}, {"one page of the host, for bytes in two", crowded(withPages(t, empty(), top/size-3, 1, 3), 0), low, api.ErrFull},
	} {
		if moved, e := Room(row.p, row.m); moved != 0 || e != row.want {
			t.Errorf("%s: Room: %#x, %v; want %v", row.what, moved, e, row.want)
		}
	}
}

// P14.3: 64 pages need as many of gmap's, the gap among them.
func TestRoomOfAll(t *testing.T) {
	m := parsed(t, file(true, load(0, 4, 9, 5), load((most-1)*size, 4, 9, 3)))
	if moved, e := Room(withPages(t, empty(), 0x50000, 192, 3), m); moved != top-most*size || e != api.OK {
		t.Errorf("64 pages are left: %#x, %v", moved, e)
	}
	if moved, e := Room(withPages(t, empty(), 0x50000, 193, 3), m); moved != 0 || e != api.ErrMem {
		t.Errorf("63 pages are left: %#x, %v", moved, e)
	}
	if moved, e := Room(crowded(empty(), 16), m); moved != top-most*size || e != api.OK {
		t.Errorf("16 pages of the host are left: %#x, %v", moved, e)
	}
	if moved, e := Room(crowded(empty(), 15), m); moved != 0 || e != api.ErrFull {
		t.Errorf("15 pages of the host are left: %#x, %v", moved, e)
	}
}

// P14.4, P14.5: images in memory, where they are and moved, beside pages that stay.
func TestLoad(t *testing.T) {
	for what, p := range map[string]api.Space{"a zero space": {}, "an empty space": empty(), "little room": crowded(empty(), 2), "a heap": {Start: 0x400000, End: 0x405000}} {
		loads(t, what, p, sample(false), 0)
		loads(t, what+", shared", p, sample(true), 0)
		loads(t, what+", moved up", p, sample(true), 0x10000000)
		loads(t, what+", moved down", p, sample(true), whole-0x3ff000)
	}
	beside := withPages(t, withPages(t, withPages(t, empty(), 0x3ff, 1, 3), 0x402, 1, 1), 0x405, 2, 4)
	loads(t, "beside, and in the gap", beside, sample(false), 0)
	loads(t, "moved away from pages", withPages(t, empty(), 0x400, 5, 7), sample(true), 5*size)
	loads(t, "a page of the host that is there", crowded(withPages(t, empty(), 0x3ff, 10, 0), 1), sample(true), 0x9000)

	var many []api.Seg
	for i := range uint32(16) {
		many = append(many, load(0x400000+i*4*size+i, 100+i, 3*size, int(i%8)))
	}
	loads(t, "16 SgLoads", empty(), file(false, many...), 0)
	loads(t, "a file of MaxFile bytes", empty(), file(false, load(0x400000, api.MaxFile, 60*size, 5)), 0)
	loads(t, "a whole image", withPages(t, empty(), 0x500, 192, 1), file(false, load(0x400123, 5000, 63*size, 2)), 0)
	loads(t, "bytes that both have", empty(), file(false, load(0x400010, 3000, 3000, 5), load(0x401010, 3000, 3000, 3)), 0)
	loads(t, "no bytes of the file", empty(), file(false, load(0x400010, 0, 3000, 6)), 0)
	loads(t, "segments of other kinds", empty(), put(file(true, dyn(0x400010, 8), load(0x400010, 80, 80, 5), interpAt(200, 2)), 200, "a\x00"), 0)
}

// P14.4: what may be done with an image's pages is what Prot says.
func TestLoadProt(t *testing.T) {
	for prot := range 8 {
		s := file(true, load(0x400000, 9, 2*size, prot), load(0x403000, 1, 1, 7-prot))
		got, e := Load(empty(), parsed(t, s), s, size)
		want := []api.Page{{N: 0x401, Prot: prot}, {N: 0x402, Prot: prot}, {N: 0x404, Prot: 7 - prot}}
		if e != api.OK || !slices.Equal(got.Guest.Pages, want) {
			t.Errorf("Prot %d: %v, %v", prot, got.Guest.Pages, e)
		}
	}
}

// P14.4: where Load refuses to move an image to, and the last places that it takes.
func TestLoadInval(t *testing.T) {
	shared, fixed := sample(true), sample(false)
	for _, moved := range []uint32{1, 4095, 4097, 2048, 8, 0x10000001, last32, whole - 4097} {
		fails(t, "no multiple", empty(), shared, moved, api.ErrInval)
		fails(t, "no multiple, not shared", empty(), fixed, moved, api.ErrInval)
	}
	for _, moved := range []uint32{size, 0x10000000, whole - size} {
		fails(t, "not shared", empty(), fixed, moved, api.ErrInval)
		loads(t, "shared", empty(), shared, moved)
	}
	const low, pages = 0x400000, 5 * size
	loads(t, "to 4096", empty(), shared, whole-low+size)
	for _, to := range []uint32{0, whole - size, whole - pages, whole - low, top, top + size, top - pages + size, top - size, top + pages, 0x80000000, 0x7fff0000} {
		fails(t, "too low, or too high", empty(), shared, to-low, api.ErrInval)
	}
	loads(t, "its end at Top", empty(), shared, top-pages-low)
	loads(t, "one page less", empty(), shared, top-pages-low-size)

	for _, at := range []uint32{0, 8, 4095} {
		fails(t, "in page 0, not shared", empty(), file(false, load(at, 1, 1, 5)), 0, api.ErrInval)
	}
	fails(t, "from page 0 on", empty(), file(true, load(0, 4, 2*size, 5)), 0, api.ErrInval)
	loads(t, "from page 0 on, moved", empty(), file(true, load(0, 4, 2*size, 5)), size)
	loads(t, "at 4096", empty(), file(false, load(size, 1, 1, 5)), 0)
	loads(t, "up to Top", empty(), file(false, load(top-size, 4, size, 5)), 0)
	fails(t, "above Top by a byte", empty(), file(false, load(top-size, 4, size+1, 5)), 0, api.ErrInval)
	fails(t, "at Top", empty(), file(false, load(top, 1, 1, 5)), 0, api.ErrInval)
	fails(t, "above Top by the second", empty(), file(false, load(top-2*size, 1, 1, 5), load(top, 1, 1, 5)), 0, api.ErrInval)
	fails(t, "above Top", empty(), file(true, load(0xffffe000, 4, size, 5)), 0, api.ErrInval)
	loads(t, "from high up round to 4096", empty(), file(true, load(0xffffc000, 4, 3*size, 5)), 5*size)
	fails(t, "from high up round to 0", empty(), file(true, load(0xffffc000, 4, 3*size, 5)), 4*size, api.ErrInval)
	fails(t, "from high up to the last page", empty(), file(true, load(0xffffc000, 4, 3*size, 5)), 3*size, api.ErrInval)
	loads(t, "64 pages up to Top", empty(), file(false, load(top-most*size, 4, most*size, 5)), 0)
	fails(t, "64 pages, one above Top", empty(), file(false, load(top-most*size+size, 4, most*size, 5)), 0, api.ErrInval)
}

// P14.4, P14.6: pages that are mapped already, whatever may be done with them; ErrInval is told ahead of that.
func TestLoadTaken(t *testing.T) {
	shared := sample(true)
	for _, page := range []uint32{0x400, 0x401, 0x403, 0x404} {
		for _, prot := range []int{0, 3, 7} {
			p := withPages(t, empty(), page, 1, prot)
			fails(t, "a page that is mapped", p, shared, 0, api.ErrMem)
			fails(t, "a page that is mapped, not shared", p, sample(false), 0, api.ErrMem)
			fails(t, "a page that is mapped, moved", withPages(t, empty(), page+0x777, 1, prot), shared, 0x777000, api.ErrMem)
			fails(t, "no multiple, and a page that is mapped", p, shared, 4, api.ErrInval)
			fails(t, "not shared, and a page that is mapped", withPages(t, empty(), page+1, 1, prot), sample(false), size, api.ErrInval)
		}
	}
	for _, page := range []uint32{0x3ff, 0x402, 0x405} {
		loads(t, "a page that is mapped beside it", withPages(t, empty(), page, 1, 3), shared, 0)
	}
	fails(t, "its pages, once more", loads(t, "once", empty(), shared, 0), shared, 0, api.ErrMem)
	fails(t, "above Top, and a page that is mapped", withPages(t, empty(), top/size-1, 1, 3), file(false, load(top-size, 4, size+1, 5)), 0, api.ErrInval)
	fails(t, "a page that is mapped, and no page of the host for the first", crowded(withPages(t, empty(), 0x404, 1, 3), 0), shared, 0, api.ErrMem)
}

// P14.4, P14.6: guest.Map's errors, at the first SgLoad and at later ones, with nothing left.
func TestLoadMapErrors(t *testing.T) {
	far := file(true, load(0x400000, 60, size, 5), load(0x410000, 60, 5*size, 3), load(0x420000, 60, size, 1))
	for left := range 4 {
		fails(t, "no page of the host is left for one of them", crowded(empty(), left), far, 0, api.ErrFull)
		fails(t, "no page of the host is left for one of them, moved", crowded(withPages(t, empty(), 1, 3, 3), left), far, 0x500000, api.ErrFull)
	}
	loads(t, "as many pages of the host as it needs", crowded(empty(), 4), far, 0)

	near := file(true, load(0x400000, 60, size, 5), load(0x404000, 60, size, 3), load(0x408000, 60, 2*size, 1))
	for used := range uint32(4) { // of each page of the host but these, all pages are mapped, and so ErrFull would apply, too
		p := withPages(t, empty(), 0x500, 4*(64-used), 3)
		for i := range used {
			p = withPages(t, p, 0x401+4*i, 3, 3)
		}
		fails(t, "too many pages for one of them", p, near, 0, api.ErrMem)
	}
	p := withPages(t, withPages(t, withPages(t, empty(), 0x500, 244, 3), 0x401, 3, 3), 0x405, 3, 3)
	loads(t, "as many pages as there can be", withPages(t, p, 0x40a, 2, 3), near, 0)
	fails(t, "ErrFull at the third", crowded(p, 0), near, 0, api.ErrFull)
	fails(t, "ErrFull at the second, as the third has a page of the host", crowded(withPages(t, withPages(t, empty(), 0x401, 1, 3), 0x40a, 1, 3), 0), near, 0, api.ErrFull)
	fails(t, "ErrFull at the second, though the third has too many pages", crowded(withPages(t, withPages(t, empty(), 0x500, 252, 3), 0x402, 1, 3), 0), near, 0, api.ErrFull)
}

// P14.3 and P14.4: what Room tells, Load takes.
func TestRoomAndLoad(t *testing.T) {
	p := withPages(t, empty(), top/size-9, 3, 3)
	for range 3 {
		moved, e := Room(p, parsed(t, sample(true)))
		if e != api.OK {
			t.Fatalf("Room: %v", e)
		}
		p = loads(t, "where there is room", p, sample(true), moved)
	}
}

// 0.5: what is told shares no memory with what was given, nor with another answer; beside errors either.
func TestNothingShared(t *testing.T) {
	s := sample(true)
	a, b := parsed(t, s), parsed(t, s)
	clear(a.Elf.Segs[:cap(a.Elf.Segs)])
	if !same(b, parsed(t, s)) {
		t.Errorf("two images share memory: %v", b)
	}
	for what, moved := range map[string]uint32{"loaded": 0x1000000, "ErrInval": 1, "ErrMem": 0, "ErrFull": 0x20000000} {
		p := crowded(withPages(t, empty(), 0x400, 1, 3), 1)
		if what != "ErrFull" {
			p = withPages(t, empty(), 0x400, 1, 3)
		}
		keep := cloned(p)
		p.Guest.Pages = append(make([]api.Page, 0, 100), p.Guest.Pages...)
		p.Guest.Host.Maps = append(make([]api.Map, 0, 100), p.Guest.Host.Maps...)
		p.Guest.Host.Cells = append(make([]api.Cell, 0, 5000), p.Guest.Host.Cells...)
		got, e := Load(p, b, s, moved)
		if what != "loaded" && e == api.OK || what == "loaded" && e != api.OK {
			t.Errorf("%s: %v", what, e)
		}
		other, _ := Load(p, b, s, moved)
		if !equal(p, keep) || !same(b, parsed(t, s)) {
			t.Errorf("%s: what was given changed", what)
		}
		told := cloned(got)
		scribble(p)
		scribble(other)
		if !equal(got, told) {
			t.Errorf("%s: what was told changed", what)
		}
	}
}

// scribble changes all that a space's lists have room for.
func scribble(p api.Space) {
	clear(p.Guest.Host.Maps[:cap(p.Guest.Host.Maps)])
	clear(p.Guest.Host.Cells[:cap(p.Guest.Host.Cells)])
	clear(p.Guest.Pages[:cap(p.Guest.Pages)])
}
