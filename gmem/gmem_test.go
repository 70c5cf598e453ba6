package gmem

import (
	"math"
	"slices"
	"strings"
	"testing"

	"ferry/api"
	"ferry/guest"
	"ferry/host"
)

const (
	hostSize = 16384
	size     = 4096
	whole    = 1 << 32 // bytes of the guest's reach
	topBase  = 1 << 62
	lastPage = 1<<20 - 1
	last32   = math.MaxUint32
	most     = 65536
)

var (
	none        = api.Fault{}
	tooMany     = api.Fault{Kind: api.FtThere, At: 0}
	bases       = []uint64{0, hostSize, 5 * hostSize, whole, topBase}
	wrongWidths = []int{0, -1, -2, -4, -8, 3, 5, 6, 7, 9, 12, 16, 64, 256, 1<<32 + 4, -1<<32 + 4, math.MinInt, math.MaxInt}
)

func missing(at uint64) api.Fault { return api.Fault{Kind: api.FtThere, At: at} }
func refused(at uint64) api.Fault { return api.Fault{Kind: api.FtRight, At: at} }

// cloned is a memory of the test's own.
func cloned(g api.Guest) api.Guest {
	return api.Guest{
		Host:  api.Host{Maps: slices.Clone(g.Host.Maps), Cells: slices.Clone(g.Host.Cells)},
		Base:  g.Base,
		Pages: slices.Clone(g.Pages),
	}
}

// equal is the test's own Same.
func equal(a, b api.Guest) bool {
	return a.Base == b.Base && slices.Equal(a.Pages, b.Pages) &&
		slices.Equal(a.Host.Maps, b.Host.Maps) && slices.Equal(a.Host.Cells, b.Host.Cells)
}

// mapped is a memory with pages, which must be allowed.
func mapped(t *testing.T, base uint64, pages ...api.Page) api.Guest {
	t.Helper()
	g := api.Guest{Base: base}
	for _, p := range pages {
		var e api.Errno
		if g, e = guest.Map(g, p.N, 1, p.Prot); e != api.OK {
			t.Fatalf("Map of page %d: %v", p.N, e)
		}
	}
	return g
}

// laid is a memory with bytes laid by the host, so that none of the layer's own functions is asked.
func laid(t *testing.T, g api.Guest, a uint32, s string) api.Guest {
	t.Helper()
	for at := g.Base + uint64(a); s != ""; {
		n := min(8, len(s))
		var v uint64
		for i := range n {
			v |= uint64(s[i]) << (8 * i)
		}
		h, f := host.Store(g.Host, at, n, v)
		if f != none {
			t.Fatalf("host.Store at %d: %v", at, f)
		}
		g.Host, at, s = h, at+uint64(n), s[n:]
	}
	return g
}

// found is bytes as the host has them, one by one.
func found(t *testing.T, g api.Guest, a uint32, n int) string {
	t.Helper()
	var out []byte
	for i := range n {
		v, f := host.Load(g.Host, g.Base+uint64(a)+uint64(i), 1)
		if f != none {
			t.Fatalf("host.Load of the byte at %d: %v", int(a)+i, f)
		}
		out = append(out, byte(v))
	}
	return string(out)
}

// counted is n bytes of which none is as its neighbours are, with a 0 now and then.
func counted(n int) string {
	out := make([]byte, n)
	for i := range out {
		out[i] = byte(i*37 + i>>8 + 1)
	}
	return string(out)
}

// put is one of Put and Poke.
type put func(api.Guest, uint32, string) (api.Guest, api.Fault)

// puts fails unless s can be put, and is there then.
func puts(t *testing.T, what string, call put, g api.Guest, a uint32, s string) {
	t.Helper()
	next, f := call(g, a, s)
	if f != none {
		t.Errorf("%s at %d, %d bytes: %v", what, a, len(s), f)
		return
	}
	if got := found(t, next, a, len(s)); got != s {
		t.Errorf("%s at %d, %d bytes: others are there", what, a, len(s))
	}
	if !guest.Fit(next) {
		t.Errorf("%s at %d, %d bytes: not fit", what, a, len(s))
	}
}

// fails fails unless s can't be put for a fault, with the memory as it was.
func fails(t *testing.T, what string, call put, g api.Guest, a uint32, s string, want api.Fault) {
	t.Helper()
	if next, f := call(g, a, s); f != want || !equal(next, g) {
		t.Errorf("%s at %d, %d bytes: %v; want %v; as it was: %v", what, a, len(s), f, want, equal(next, g))
	}
}

// tells fails unless Bytes tells s.
func tells(t *testing.T, g api.Guest, a uint32, s string) {
	t.Helper()
	if got, f := Bytes(g, a, uint32(len(s))); got != s || f != none {
		t.Errorf("Bytes at %d, %d: %q, %v; want %q", a, len(s), got, f, s)
	}
}

// hides fails unless Bytes tells a fault and nothing else.
func hides(t *testing.T, g api.Guest, a, n uint32, want api.Fault) {
	t.Helper()
	if got, f := Bytes(g, a, n); got != "" || f != want {
		t.Errorf("Bytes at %d, %d: %q, %v; want %v", a, n, got, f, want)
	}
}

// The chapter's example (P5.2), at each base.
func TestExample(t *testing.T) {
	for _, base := range bases {
		g := mapped(t, base, api.Page{N: 1, Prot: 3})
		g, f := Store(g, 4096, 4, 258)
		if f != none || found(t, g, 4096, 4) != "\x00\x00\x01\x02" {
			t.Errorf("Store: %v", f)
		}
		if v, f := Load(g, 4096, 4); v != 258 || f != none {
			t.Errorf("Load of 4 bytes: %d, %v", v, f)
		}
		if v, f := Load(g, 4098, 2); v != 258 || f != none {
			t.Errorf("Load of 2 bytes: %d, %v", v, f)
		}
		if v, f := Load(g, 8190, 4); v != 0 || f != missing(8192) {
			t.Errorf("Load over the border: %d, %v", v, f)
		}
		want := api.Guest{
			Host:  api.Host{Maps: []api.Map{{Page: base / hostSize, Prot: 3}}, Cells: []api.Cell{{At: base + 4096, Word: 2<<24 + 1<<16}}},
			Base:  base,
			Pages: []api.Page{{N: 1, Prot: 3}},
		}
		if !equal(g, want) {
			t.Errorf("Store: %v; want %v", g, want)
		}
	}
}

// P5.1: Bytes within a page, over two pages of the guest, and over two of the host.
func TestBytes(t *testing.T) {
	for _, base := range bases {
		g := mapped(t, base, api.Page{N: 2, Prot: 1}, api.Page{N: 3, Prot: 3}, api.Page{N: 4, Prot: 7}, api.Page{N: 5, Prot: 5})
		text := counted(200)
		for _, a := range []uint32{2 * size, 2*size + 1, 2*size + 8, 3*size - 1, 3*size - 100, 4*size - 3, 4*size - 8, 4*size - 199, 5*size - 200, 6*size - 200} {
			full := laid(t, g, a, text)
			for n := range len(text) + 1 {
				tells(t, full, a, text[:n])
			}
			tells(t, full, a+7, text[7:])
		}
	}
}

// P5.1: Put and Poke likewise; bytes that were there are others then, and 0 is put too.
func TestPut(t *testing.T) {
	for _, base := range bases {
		g := mapped(t, base, api.Page{N: 2, Prot: 2}, api.Page{N: 3, Prot: 3}, api.Page{N: 4, Prot: 7}, api.Page{N: 5, Prot: 6})
		for _, a := range []uint32{2 * size, 2*size + 5, 3*size - 1, 4*size - 3, 4*size - 8, 5*size - 30, 6*size - 60} {
			full := laid(t, g, a, strings.Repeat("\xff", 60))
			for _, s := range []string{"x", "\x00", counted(60), strings.Repeat("\x00", 60), strings.Repeat("\x00", 17) + "y"} {
				for _, on := range []api.Guest{g, full} {
					puts(t, "Put", Put, on, a, s)
					puts(t, "Poke", Poke, on, a, s)
				}
			}
		}
	}
}

// P5.4: of a memory that is 0 nothing is left but what was put, and of that nothing, if 0 is put there again.
func TestPutBack(t *testing.T) {
	g := mapped(t, whole, api.Page{N: 3, Prot: 3}, api.Page{N: 4, Prot: 3})
	for a := uint32(4*size - 20); a < 4*size+4; a++ {
		for n := range 20 {
			full, f := Put(g, a, strings.Repeat("z", n))
			cells := (uint64(a)%8 + uint64(n) + 7) / 8
			if n == 0 {
				cells = 0
			}
			if f != none || uint64(len(full.Host.Cells)) != cells || !guest.Fit(full) {
				t.Fatalf("Put at %d, %d: %v, %v", a, n, full, f)
			}
			if back, f := Put(full, a, strings.Repeat("\x00", n)); f != none || !equal(back, g) {
				t.Fatalf("Put of 0 at %d, %d: %v, %v", a, n, back, f)
			}
		}
	}
}

// P5.1: no bytes have no fault, wherever they are.
func TestNoBytes(t *testing.T) {
	for _, g := range []api.Guest{{}, {Base: topBase}, mapped(t, whole, api.Page{N: 1, Prot: 0}, api.Page{N: lastPage, Prot: 0})} {
		for _, a := range []uint32{0, 1, 4095, 4096, 5000, 8192, 1 << 31, last32 - 1, last32} {
			tells(t, g, a, "")
			for what, call := range map[string]put{"Put": Put, "Poke": Poke} {
				if next, f := call(g, a, ""); f != none || !equal(next, g) {
					t.Errorf("%s of nothing at %d: %v, %v", what, a, next, f)
				}
			}
		}
	}
}

// P5.1: 65536 bytes, and one more; that they are too many is told ahead of all other faults.
func TestMany(t *testing.T) {
	for _, base := range []uint64{0, whole} {
		g, e := guest.Map(api.Guest{Base: base}, 3, 18, 3)
		if e != api.OK {
			t.Fatal(e)
		}
		text := counted(most)
		for _, a := range []uint32{3 * size, 4 * size, 4*size + 3, 5*size - 1} {
			for what, call := range map[string]put{"Put": Put, "Poke": Poke} {
				puts(t, what, call, g, a, text)
				puts(t, what, call, g, a, text[1:])
				fails(t, what, call, g, a, text+"x", tooMany)
				full, _ := call(g, a, text)
				tells(t, full, a, text)
				hides(t, full, a, most+1, tooMany)
			}
		}
		for _, a := range []uint32{0, 3 * size, 7, 30 * size, 1 << 31, last32} {
			for _, n := range []uint32{most + 1, most + 2, 2 * most, 1 << 31, last32 - 1, last32} {
				hides(t, g, a, n, tooMany)
			}
			for _, n := range []int{most + 1, most + size, 3 * most} {
				fails(t, "Put", Put, g, a, strings.Repeat("x", n), tooMany)
				fails(t, "Poke", Poke, g, a, strings.Repeat("x", n), tooMany)
			}
		}
		hides(t, g, 30*size, most, missing(30*size))
		fails(t, "Put", Put, g, 6*size, text, missing(21*size))
		fails(t, "Poke", Poke, g, 6*size, text, missing(21*size))
		hides(t, g, 6*size, most, missing(21*size))
	}
}

// around is a guest's memory at the end of 32 bits, with page 0, and the host's pages out of reach on either side, which have bytes.
func around(t *testing.T, base uint64) api.Guest {
	t.Helper()
	g := api.Guest{Base: base}
	for _, page := range []uint64{base/hostSize - 1, (base + whole) / hostSize} {
		h, e := host.Map(g.Host, page, 1, 7)
		if e != api.OK {
			t.Fatal(e)
		}
		g.Host = h
	}
	g.Host, _ = host.Store(g.Host, base-8, 8, math.MaxUint64)
	g.Host, _ = host.Store(g.Host, base+whole, 8, 0x0102030405060708)
	for _, page := range []uint32{0, lastPage - 1, lastPage} {
		g, _ = guest.Map(g, page, 1, 7)
	}
	if !guest.Fit(g) || len(g.Pages) != 3 {
		t.Fatal("the memory is not fit")
	}
	return laid(t, g, last32-15, "abcdefghijklmno\x00")
}

// P5.1, P5.2: addresses up to 2^32 - 1, and behind it, where nothing begins anew at 0, though the host goes on.
func TestEnd(t *testing.T) {
	for _, base := range []uint64{whole, 5 * hostSize, topBase} {
		g := around(t, base)
		end := missing(whole)
		tells(t, g, last32-15, "abcdefghijklmno\x00")
		tells(t, g, last32, "\x00")
		hides(t, g, last32-15, 17, end)
		hides(t, g, last32, 2, end)
		hides(t, g, last32, most, end)
		hides(t, g, last32-size, size+2, end)
		puts(t, "Put", Put, g, last32, "x")
		puts(t, "Poke", Poke, g, last32-7, "12345678")
		puts(t, "Put", Put, g, last32-2*size+1, counted(2*size))
		for what, call := range map[string]put{"Put": Put, "Poke": Poke} {
			fails(t, what, call, g, last32, "xy", end)
			fails(t, what, call, g, last32-7, "123456789", end)
			fails(t, what, call, g, last32-2*size+1, counted(2*size+1), end)
		}
		for _, row := range []struct {
			a    uint32
			n    int
			want uint64
		}{{last32, 1, 0}, {last32 - 1, 2, 'o' << 8}, {last32 - 3, 4, 'm'<<24 + 'n'<<16 + 'o'<<8}, {last32 - 7, 8, 0x696a6b6c6d6e6f00}} {
			if v, f := Load(g, row.a, row.n); v != row.want || f != none {
				t.Errorf("Load at %d, %d: %#x, %v", row.a, row.n, v, f)
			}
			if v, f := Load(g, row.a+1, row.n); row.n > 1 && (v != 0 || f != end) {
				t.Errorf("Load at %d, %d: %#x, %v", row.a+1, row.n, v, f)
			}
			if h, f := Store(g, row.a+1, row.n, 1); row.n > 1 && (f != end || !equal(h, g)) {
				t.Errorf("Store at %d, %d: %v", row.a+1, row.n, f)
			}
		}
		if v, f := Fetch(g, last32-3); v != 'm'<<24+'n'<<16+'o'<<8 || f != none {
			t.Errorf("Fetch of the last word: %#x, %v", v, f)
		}
		for i := range uint32(3) {
			if v, f := Fetch(g, last32-i); v != 0 || f != end {
				t.Errorf("Fetch at %d: %#x, %v", last32-i, v, f)
			}
		}
	}
}

// P5.1: a page that is not mapped, or that may not, as the first one and as a later one; of several the first one's fault.
func TestFaults(t *testing.T) {
	for _, base := range bases {
		// Pages 3 and 4, which are in two of the host's, with page 2 and page 5 as they come; page 6 is not mapped.
		for prot := -1; prot < 8; prot++ {
			pages := []api.Page{{N: 3, Prot: 7}, {N: 4, Prot: 7}}
			if prot >= 0 {
				pages = append(pages, api.Page{N: 2, Prot: prot}, api.Page{N: 5, Prot: prot})
			}
			g := laid(t, mapped(t, base, pages...), 3*size, counted(2*size))
			check := func(what string, asked int, call func(a uint32, n int) api.Fault) {
				t.Helper()
				kind := api.FtNone
				if prot < 0 {
					kind = api.FtThere
				} else if prot&asked != asked {
					kind = api.FtRight
				}
				for _, row := range []struct {
					a  uint32
					n  int
					at uint64
				}{
					{2 * size, 1, 2 * size}, {3*size - 1, 1, 3*size - 1}, {3*size - 1, 2, 3*size - 1}, {2*size + 5, 4000, 2*size + 5}, {3*size - 4, 4, 3*size - 4}, {3*size - 3, 2*size + 3, 3*size - 3},
					{5*size - 1, 2, 5 * size}, {5*size - 3, 4, 5 * size}, {5*size - 8, 9, 5 * size}, {3 * size, 2*size + 1, 5 * size}, {3*size + 1, 3*size - 1, 5 * size},
				} {
					want := api.Fault{Kind: kind, At: row.at}
					if kind == api.FtNone {
						want = none
					}
					if f := call(row.a, row.n); f != want {
						t.Errorf("base %d, Prot %d: %s at %d, %d: %v; want %v", base, prot, what, row.a, row.n, f, want)
					}
				}
				if f := call(3*size, 2*size); f != none {
					t.Errorf("base %d, Prot %d: %s of both: %v", base, prot, what, f)
				}
				if f := call(5*size-1, size+2); f == none || kind == api.FtNone && f != missing(6*size) || kind != api.FtNone && f.At != 5*size {
					t.Errorf("base %d, Prot %d: %s over two faults: %v", base, prot, what, f)
				}
			}
			check("Bytes", api.PrRead, func(a uint32, n int) api.Fault {
				s, f := Bytes(g, a, uint32(n))
				if f != none && s != "" || f == none && s != found(t, g, a, n) {
					t.Errorf("Bytes at %d, %d: %d bytes, %v", a, n, len(s), f)
				}
				return f
			})
			for what, asked := range map[string]int{"Put": api.PrWrite, "Poke": 0} {
				call := put(Put)
				if what == "Poke" {
					call = Poke
				}
				check(what, asked, func(a uint32, n int) api.Fault {
					next, f := call(g, a, strings.Repeat("x", n))
					if f != none && !equal(next, g) || f == none && found(t, next, a, n) != strings.Repeat("x", n) {
						t.Errorf("%s at %d, %d: others are there, %v", what, a, n, f)
					}
					return f
				})
			}
		}
	}
}

// P5.1: Poke puts to a page that may not be written, where Put may not.
func TestPoke(t *testing.T) {
	for prot := range 8 {
		g := mapped(t, whole, api.Page{N: 1, Prot: prot})
		puts(t, "Poke", Poke, g, size+3, "poked")
		full, _ := Poke(g, size+3, "poked")
		if !slices.Equal(full.Pages, g.Pages) || !slices.Equal(full.Host.Maps, g.Host.Maps) {
			t.Errorf("Prot %d: pages changed: %v", prot, full)
		}
		if prot&api.PrWrite == 0 {
			fails(t, "Put", Put, g, size+3, "poked", refused(size+3))
		} else {
			puts(t, "Put", Put, g, size+3, "poked")
		}
		if prot&api.PrRead == 0 {
			hides(t, full, size+3, 5, refused(size+3))
		} else {
			tells(t, full, size+3, "poked")
		}
	}
}

// P5.2: Load and Store of 1, 2, 4 and 8 bytes, at any address.
func TestLoadStore(t *testing.T) {
	const v = 0x8192a3b4c5d6e7f8
	digits := "\x81\x92\xa3\xb4\xc5\xd6\xe7\xf8"
	for _, base := range bases {
		g := mapped(t, base, api.Page{N: 3, Prot: 3}, api.Page{N: 4, Prot: 3}, api.Page{N: 5, Prot: 3})
		g = laid(t, g, 4*size-20, strings.Repeat("\x11", 40))
		g = laid(t, g, 5*size-20, strings.Repeat("\x11", 40))
		for _, at := range []uint32{4 * size, 5 * size} { // a border of the host's pages, and one of the guest's alone
			for a := at - 11; a < at+4; a++ {
				for _, n := range []int{1, 2, 4, 8} {
					next, f := Store(g, a, n, v)
					want := laid(t, g, a, digits[8-n:])
					if f != none || !equal(next, want) {
						t.Errorf("Store at %d, %d: %v, %v", a, n, next, f)
					}
					number := uint64(v) << (64 - 8*n) >> (64 - 8*n)
					if got, f := Load(want, a, n); got != number || f != none {
						t.Errorf("Load at %d, %d: %#x, %v; want %#x", a, n, got, f, number)
					}
				}
			}
		}
	}
}

// P5.2: of any other n 0, or the memory, and no fault, wherever the address is.
func TestWrongWidths(t *testing.T) {
	full := laid(t, mapped(t, whole, api.Page{N: 1, Prot: 3}, api.Page{N: 2, Prot: 0}), size, counted(32))
	for _, g := range []api.Guest{{}, full} {
		for _, n := range wrongWidths {
			for _, a := range []uint32{0, size, size + 1, 2*size - 2, 2 * size, last32} {
				if v, f := Load(g, a, n); v != 0 || f != none {
					t.Errorf("Load at %d, %d: %d, %v", a, n, v, f)
				}
				if next, f := Store(g, a, n, math.MaxUint64); f != none || !equal(next, g) {
					t.Errorf("Store at %d, %d: %v, %v", a, n, next, f)
				}
			}
		}
	}
}

// P5.2: faults of Load, Store and Fetch, and what each of them must be allowed.
func TestNumbersFaults(t *testing.T) {
	for prot := range 8 {
		g := laid(t, mapped(t, whole, api.Page{N: 1, Prot: prot}, api.Page{N: 2, Prot: 7}, api.Page{N: 3, Prot: 7}, api.Page{N: 4, Prot: prot}), size, counted(4*size))
		check := func(what string, asked int, a uint32, at uint64, f api.Fault, ok bool) {
			t.Helper()
			want := none
			if prot&asked == 0 {
				want = refused(at)
			}
			if f != want || !ok {
				t.Errorf("Prot %d: %s at %d: %v; want %v", prot, what, a, f, want)
			}
		}
		for _, row := range []struct {
			a  uint32
			at uint64
		}{{size, size}, {2*size - 4, 2*size - 4}, {2*size - 1, 2*size - 1}, {4*size - 3, 4 * size}, {4*size - 1, 4 * size}, {4*size + 6, 4*size + 6}} {
			v, f := Load(g, row.a, 4)
			check("Load", api.PrRead, row.a, row.at, f, f == none || v == 0)
			next, f := Store(g, row.a, 4, 77)
			check("Store", api.PrWrite, row.a, row.at, f, f == none || equal(next, g))
			w, f := Fetch(g, row.a)
			s := counted(4 * size)[row.a-size:][:4]
			word := uint32(s[0])<<24 + uint32(s[1])<<16 + uint32(s[2])<<8 + uint32(s[3])
			check("Fetch", api.PrExec, row.a, row.at, f, f == none && w == word || f != none && w == 0)
		}
		for _, a := range []uint32{5*size - 3, 5*size - 1} {
			if v, f := Fetch(g, a); v != 0 || f == none || f.At != 5*size && prot&api.PrExec != 0 {
				t.Errorf("Prot %d: Fetch at %d: %d, %v", prot, a, v, f)
			}
		}
		if v, f := Fetch(g, 5*size); v != 0 || f != missing(5*size) {
			t.Errorf("Fetch of no page: %d, %v", v, f)
		}
		if v, f := Load(g, size-1, 2); v != 0 || f != missing(size-1) {
			t.Errorf("Load ahead of all: %d, %v", v, f)
		}
		if next, f := Store(g, size-1, 1, 5); f != missing(size-1) || !equal(next, g) {
			t.Errorf("Store ahead of all: %v, %v", next, f)
		}
	}
}

// texts fails unless Text tells a text.
func texts(t *testing.T, g api.Guest, a uint32, n int, want string) {
	t.Helper()
	if s, f, e := Text(g, a, n); s != want || f != none || e != api.OK {
		t.Errorf("Text at %d, %d: %q, %v, %v; want %q", a, n, s, f, e, want)
	}
}

// noText fails unless Text tells a fault, or an error, and nothing else.
func noText(t *testing.T, g api.Guest, a uint32, n int, fault api.Fault, errno api.Errno) {
	t.Helper()
	if s, f, e := Text(g, a, n); s != "" || f != fault || e != errno {
		t.Errorf("Text at %d, %d: %q, %v, %v; want %v, %v", a, n, s, f, e, fault, errno)
	}
}

// P5.3: a text whose byte 0 is the last one that is asked for, and one behind it; bounds of what is asked for.
func TestText(t *testing.T) {
	for _, base := range bases {
		g := mapped(t, base, api.Page{N: 3, Prot: 1}, api.Page{N: 4, Prot: 1})
		for _, a := range []uint32{3 * size, 3*size + 9, 4*size - 2, 4*size - 130, 4*size - 256} {
			for _, n := range []int{0, 1, 2, 7, 8, 9, 31, 254, 255} {
				text := strings.Repeat("q", n)
				full := laid(t, g, a, text+"\x00more\x00")
				for _, asked := range []int{n, n + 1, 255, 256, 65536, math.MaxInt} {
					texts(t, full, a, asked, text)
				}
				for _, asked := range []int{n - 1, n / 2, 0, -1, -2, -256, math.MinInt} {
					if n == 0 {
						texts(t, full, a, asked, "")
					} else if asked < n {
						noText(t, full, a, asked, none, api.ErrLong)
					}
				}
			}
			for _, n := range []int{256, 257, 300} { // longer than the longest that is asked for
				full := laid(t, g, a, strings.Repeat("q", n)+"\x00")
				for _, asked := range []int{-1, 0, 254, 255, 256, n, n + 1, math.MaxInt} {
					noText(t, full, a, asked, none, api.ErrLong)
				}
			}
		}
	}
}

// P5.3: a text that goes on into a page that is not mapped, or that may not be read, with the byte 0 ahead of it and without one; and at the end of 32 bits.
func TestTextFaults(t *testing.T) {
	for _, base := range bases {
		for prot := -1; prot < 8; prot++ {
			g := mapped(t, base, api.Page{N: 4, Prot: 3}, api.Page{N: lastPage, Prot: 1})
			fault := missing(5 * size)
			if prot >= 0 {
				g, _ = guest.Map(g, 5, 1, prot)
				g = laid(t, g, 5*size, "bcd\x00")
				fault = refused(5 * size)
			}
			ends := laid(t, g, 5*size-4, "abc\x00")
			texts(t, ends, 5*size-4, 3, "abc")
			texts(t, ends, 5*size-4, 255, "abc")
			texts(t, ends, 5*size-1, 255, "")
			noText(t, ends, 5*size-4, 2, none, api.ErrLong)
			goes := laid(t, g, 5*size-4, "abca")
			noText(t, goes, 5*size-4, 3, none, api.ErrLong) // four bytes are asked for: none is behind the border
			noText(t, goes, 5*size-1, 0, none, api.ErrLong)
			if prot >= 0 && prot&api.PrRead != 0 {
				texts(t, goes, 5*size-4, 255, "abcabcd")
				noText(t, goes, 5*size-4, 6, none, api.ErrLong)
				continue
			}
			noText(t, goes, 5*size-4, 4, fault, api.OK)
			noText(t, goes, 5*size-4, 255, fault, api.OK)
			noText(t, goes, 5*size-1, 1, fault, api.OK)
			noText(t, goes, 5*size, 0, fault, api.OK)
			noText(t, goes, 5*size, 255, fault, api.OK)
			noText(t, goes, 5*size, -5, fault, api.OK)
			noText(t, goes, 4*size-1, 255, missing(4*size-1), api.OK)
		}
	}
	g := around(t, whole)
	texts(t, g, last32-15, 15, "abcdefghijklmno")
	texts(t, g, last32-15, 255, "abcdefghijklmno")
	texts(t, g, last32, 0, "")
	noText(t, g, last32-15, 14, none, api.ErrLong)
	g = laid(t, g, last32, "p")
	noText(t, g, last32-15, 15, none, api.ErrLong)
	noText(t, g, last32-15, 16, missing(whole), api.OK)
	noText(t, g, last32, 0, none, api.ErrLong)
	noText(t, g, last32, 1, missing(whole), api.OK)
}

// P5.3: Text is about what may be read alone, whatever else is allowed.
func TestTextProts(t *testing.T) {
	for prot := range 8 {
		g := laid(t, mapped(t, whole, api.Page{N: 1, Prot: prot}), size+5, "hi\x00")
		if prot&api.PrRead != 0 {
			texts(t, g, size+5, 9, "hi")
		} else {
			noText(t, g, size+5, 9, refused(size+5), api.OK)
		}
	}
}

// P5.5: Load of 4 bytes is that of its halves, and bytes in two pieces are the whole.
func TestPieces(t *testing.T) {
	g := mapped(t, whole, api.Page{N: 3, Prot: 3}, api.Page{N: 4, Prot: 3})
	text := counted(64)
	full := laid(t, g, 4*size-32, text)
	for a := uint32(4*size - 32); a < 4*size+24; a++ {
		all, _ := Load(full, a, 8)
		word, f := Load(full, a, 4)
		high, _ := Load(full, a, 2)
		low, _ := Load(full, a+2, 2)
		next, _ := Load(full, a+4, 4)
		if f != none || word != high<<16+low || all != word<<32+next {
			t.Errorf("Load at %d: %#x of %#x and %#x, %#x", a, word, high, low, all)
		}
	}
	for n := range len(text) + 1 {
		left, f := Bytes(full, 4*size-32, uint32(n))
		right, e := Bytes(full, 4*size-32+uint32(n), uint32(len(text)-n))
		if left+right != text || f != none || e != none {
			t.Errorf("bytes parted at %d: %q, %q", n, left, right)
		}
		half, _ := Put(g, 4*size-32, text[:n])
		if both, f := Put(half, 4*size-32+uint32(n), text[n:]); f != none || !equal(both, full) {
			t.Errorf("put in two pieces, parted at %d: %v", n, f)
		}
		half, _ = Poke(g, 4*size-32+uint32(n), text[n:])
		if both, f := Poke(half, 4*size-32, text[:n]); f != none || !equal(both, full) {
			t.Errorf("poked in two pieces, parted at %d: %v", n, f)
		}
	}
}
