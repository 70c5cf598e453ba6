package gmap

import (
	"math"
	"slices"
	"testing"

	"ferry/api"
	"ferry/guest"
	"ferry/host"
)

const (
	size     = 4096
	hostSize = 16384
	top      = 0x70000000
	topNext  = top / size // the page at Top
	most     = 256
	allPages = 1 << 20
	lastPage = allPages - 1
	whole    = 1 << 32 // bytes of the guest's reach
	topBase  = 1 << 62
	last32   = math.MaxUint32
)

var wrongProts = []int{-1, 8, 9, -8, 1 << 32, 1<<32 + 3, math.MinInt, math.MaxInt}

// cloned is a space of the test's own.
func cloned(s api.Space) api.Space {
	s.Guest.Pages = slices.Clone(s.Guest.Pages)
	s.Guest.Host = api.Host{Maps: slices.Clone(s.Guest.Host.Maps), Cells: slices.Clone(s.Guest.Host.Cells)}
	return s
}

func equal(a, b api.Space) bool {
	return a.Start == b.Start && a.End == b.End && a.Guest.Base == b.Guest.Base && slices.Equal(a.Guest.Pages, b.Guest.Pages) &&
		slices.Equal(a.Guest.Host.Maps, b.Guest.Host.Maps) && slices.Equal(a.Guest.Host.Cells, b.Guest.Host.Cells)
}

// space has a heap, and pages (each 3, with bytes that are not 0 at its beginning and its end) by the guest alone.
func space(t *testing.T, start, end uint32, pages ...uint32) api.Space {
	t.Helper()
	s := api.Space{Guest: api.Guest{Base: whole}, Start: start, End: end}
	for _, p := range pages {
		s.Guest = withPages(t, s.Guest, p, 1, 3)
		at := s.Guest.Base + uint64(p)*size
		s.Guest.Host = stored(t, s.Guest.Host, at, uint64(p)+1)
		s.Guest.Host = stored(t, s.Guest.Host, at+size-8, uint64(p+1)<<32)
	}
	if !Fit(s) {
		t.Fatalf("the test's own space is not fit: %v", s)
	}
	return s
}

func withPages(t *testing.T, g api.Guest, first, n uint32, prot int) api.Guest {
	t.Helper()
	g, e := guest.Map(g, first, n, prot)
	if e != api.OK {
		t.Fatalf("guest.Map of page %d, %d: %v", first, n, e)
	}
	return g
}

func withoutPages(t *testing.T, g api.Guest, first, n uint32) api.Guest {
	t.Helper()
	g, e := guest.Unmap(g, first, n)
	if e != api.OK {
		t.Fatalf("guest.Unmap of page %d, %d: %v", first, n, e)
	}
	return g
}

func stored(t *testing.T, h api.Host, at, v uint64) api.Host {
	t.Helper()
	h, f := host.Store(h, at, 8, v)
	if f != (api.Fault{}) {
		t.Fatalf("host.Store at %d: %v", at, f)
	}
	return h
}

// crowded has so many pages of the host mapped out of the guest's reach that just some are left.
func crowded(s api.Space, left int) api.Space {
	s = cloned(s)
	for i := range 64 - left - len(s.Guest.Host.Maps) {
		s.Guest.Host.Maps = append(s.Guest.Host.Maps, api.Map{Page: (s.Guest.Base+whole)/hostSize + uint64(i), Prot: 1})
	}
	return s
}

// full has 256 pages of the guest's mapped, from one on.
func full(t *testing.T, first uint32) api.Space {
	t.Helper()
	s := space(t, 0, 0)
	s.Guest = withPages(t, s.Guest, first, most, 5)
	return s
}

// is fails unless a space is just what is wanted, and fit.
func is(t *testing.T, what string, got, want api.Space) {
	t.Helper()
	if !equal(got, want) {
		t.Errorf("%s: %v; want %v", what, got, want)
	}
	if !Fit(got) {
		t.Errorf("%s: %v is not fit", what, got)
	}
}

// maps fails unless Mmap maps n bytes at an address, that many pages and no others.
func maps(t *testing.T, what string, s api.Space, a, n uint32, prot int, fixed bool, at, pages uint32) {
	t.Helper()
	want := cloned(s)
	want.Guest = withPages(t, want.Guest, at/size, pages, prot)
	got, where, e := Mmap(s, a, n, prot, fixed)
	if where != at || e != api.OK {
		t.Errorf("%s: Mmap at %#x, %d bytes, fixed %v: %#x, %v; want %#x", what, a, n, fixed, where, e, at)
		return
	}
	is(t, what, got, want)
}

// refuses fails unless Mmap tells an error, and the space as it was.
func refuses(t *testing.T, what string, s api.Space, a, n uint32, prot int, fixed bool, want api.Errno) {
	t.Helper()
	before := cloned(s)
	got, where, e := Mmap(s, a, n, prot, fixed)
	if where != 0 || e != want {
		t.Errorf("%s: Mmap at %#x, %d bytes, fixed %v: %#x, %v; want %v", what, a, n, fixed, where, e, want)
	}
	is(t, what, got, before)
}

// The chapter's example.
func TestExample(t *testing.T) {
	s, at, e := Mmap(api.Space{}, 0, 5000, 3, false)
	if at != 0x6fffe000 || e != api.OK || len(s.Guest.Pages) != 2 {
		t.Errorf("Mmap of 5000 bytes: %#x, %v, %v", at, e, s.Guest.Pages)
	}
	s, e = Munmap(s, at, 1)
	if e != api.OK || !slices.Equal(s.Guest.Pages, []api.Page{{N: 0x6ffff, Prot: 3}}) {
		t.Errorf("Munmap of its first page: %v, %v", e, s.Guest.Pages)
	}
	s, end := Brk(api.Space{Start: 8192, End: 8192}, 8193)
	if end != 8193 || s.End != 8193 || s.Start != 8192 || !slices.Equal(s.Guest.Pages, []api.Page{{N: 2, Prot: 3}}) {
		t.Errorf("Brk of 8193: %d, %v", end, s)
	}
}

// P6.1: Fit of the guest's memory, of Start, and of Start and End.
func TestFit(t *testing.T) {
	good := space(t, 0, 0, 3, 4, lastPage).Guest
	for _, row := range []struct {
		start, end uint32
		want       bool
	}{
		{0, 0, true}, {0, 1, true}, {0, last32, true}, {size, size, true}, {size, size + 1, true}, {size, last32, true},
		{lastPage * size, lastPage * size, true}, {lastPage * size, last32, true}, {top, top, true}, {top + size, top + size, true},
		{1, 1, false}, {1, size, false}, {size - 1, size, false}, {size + 1, 2 * size, false}, {2048, last32, false}, {last32, last32, false},
		{size, 0, false}, {size, size - 1, false}, {2 * size, size, false}, {lastPage * size, 0, false}, {lastPage * size, lastPage*size - 1, false},
	} {
		s := api.Space{Guest: good, Start: row.start, End: row.end}
		if Fit(s) != row.want {
			t.Errorf("Fit with Start %d, End %d: %v", row.start, row.end, !row.want)
		}
		s.Guest = api.Guest{}
		if Fit(s) != row.want {
			t.Errorf("Fit without pages, Start %d, End %d: %v", row.start, row.end, !row.want)
		}
	}
	for what, spoil := range map[string]func(*api.Guest){
		"a Base that is no multiple":     func(g *api.Guest) { g.Base++ },
		"a Prot of 8":                    func(g *api.Guest) { g.Pages[0].Prot = 8 },
		"pages that do not rise":         func(g *api.Guest) { g.Pages[0].N = g.Pages[1].N },
		"a page that the host lacks":     func(g *api.Guest) { g.Host.Maps = g.Host.Maps[1:] },
		"a host's page of none":          func(g *api.Guest) { g.Pages = g.Pages[:2] },
		"a host that is not fit":         func(g *api.Guest) { g.Host.Cells[0].Word = 0 },
		"bytes where the guest has none": func(g *api.Guest) { g.Host.Cells[0].At -= 8 },
	} {
		s := cloned(api.Space{Guest: good, Start: size, End: 2 * size})
		if spoil(&s.Guest); Fit(s) {
			t.Errorf("Fit with %s", what)
		}
	}
}

// P6.1: what Mmap refuses ahead of looking for room, the first error that applies, with the space as it was.
func TestMmapWrong(t *testing.T) {
	s := space(t, 8*size, 9*size+1, 8, 9, 3, topNext-1, lastPage)
	for _, fixed := range []bool{false, true} {
		refuses(t, "no bytes", s, 5*size, 0, 3, fixed, api.ErrInval)
		for _, prot := range wrongProts {
			refuses(t, "a wrong prot", s, 5*size, size, prot, fixed, api.ErrInval)
			refuses(t, "a wrong prot and no bytes", s, 5*size, 0, prot, fixed, api.ErrInval)
			refuses(t, "a wrong prot and too many bytes", s, 5*size, last32, prot, fixed, api.ErrInval)
		}
		for _, n := range []uint32{most*size + 1, most*size + size, most*size + size + 1, 1 << 31, last32 - 4095, last32 - 4094, last32} {
			refuses(t, "too many pages", s, 5*size, n, 3, fixed, api.ErrMem)
			refuses(t, "too many pages at 0", s, 0, n, 3, fixed, api.ErrMem)
			refuses(t, "too many pages at the end", s, lastPage*size, n, 3, fixed, api.ErrMem)
		}
	}
	for _, a := range []uint32{1, size - 1, size + 1, 5*size + 2048, 5*size + 8, top + 1, last32} {
		refuses(t, "fixed at no page", s, a, size, 3, true, api.ErrInval)
		refuses(t, "fixed at no page, too many bytes", s, a, last32, 3, true, api.ErrInval)
	}
	refuses(t, "above 2^32", s, lastPage*size, size+1, 3, true, api.ErrMem)
	refuses(t, "above 2^32", s, lastPage*size, 2*size, 3, true, api.ErrMem)
	refuses(t, "above 2^32", s, (lastPage-1)*size, 2*size+1, 3, true, api.ErrMem)
	refuses(t, "256 above 2^32", s, (allPages-most+1)*size, most*size, 3, true, api.ErrMem)
}

// P6.1: fixed, bytes are mapped just there, whatever is there: at 0, over pages that are mapped, over the heap, above Top, up to 2^32.
func TestMmapFixed(t *testing.T) {
	s := space(t, 8*size, 9*size+1, 8, 9, 3, 4, topNext-1, lastPage)
	for prot := range 8 {
		maps(t, "a prot", s, 5*size, size, prot, true, 5*size, 1)
	}
	for _, row := range []struct{ a, n, pages uint32 }{
		{0, 1, 1}, {0, size, 1}, {0, size + 1, 2}, {size, size - 1, 1}, {5 * size, 2 * size, 2}, {5 * size, 2*size - 1, 2}, {5 * size, 2*size + 1, 3},
		{3 * size, size, 1}, {4 * size, 2 * size, 2}, {2 * size, 4 * size, 4}, {8 * size, 1, 1}, {7 * size, 5 * size, 5}, {10 * size, size, 1},
		{top - size, size, 1}, {top - size, 2 * size, 2}, {top, 1, 1}, {0x7fff0000, 8 * size, 8},
		{lastPage * size, 1, 1}, {lastPage * size, size, 1}, {(lastPage - 1) * size, 2 * size, 2}, {(lastPage - 1) * size, size + 1, 2},
	} {
		maps(t, "fixed", s, row.a, row.n, 6, true, row.a, row.pages)
	}
	empty := space(t, 0, 0)
	for _, a := range []uint32{0, 4 * size, top, (allPages - most) * size} {
		maps(t, "just 256 pages", empty, a, most*size, 3, true, a, most)
		maps(t, "just 256 pages", empty, a, most*size-size+1, 3, true, a, most)
	}
	maps(t, "all of 256 anew", full(t, 8), 8*size, most*size, 3, true, 8*size, most)
}

// P6.1: not fixed, bytes are mapped at the address that is asked for, if they may be, else in free room.
func TestMmapAsked(t *testing.T) {
	s := space(t, 8*size, 9*size+1, 8, 9, 3, 4, 20, topNext-2, topNext+5, lastPage)
	room := uint32(top - size) // of one page
	below := uint32(top - 2*size)
	for _, row := range []struct{ a, n, at, pages uint32 }{
		{5 * size, 1, 5 * size, 1}, {5 * size, size, 5 * size, 1}, {5 * size, 3 * size, 5 * size, 3}, {size, 2 * size, size, 2}, {21 * size, 9 * size, 21 * size, 9},
		{0, size, room, 1}, {0, 1, room, 1}, {0, size + 1, below - 2*size, 2}, {0, 3 * size, below - 3*size, 3}, // 0 is none that is asked for
		{5*size + 1, size, room, 1}, {5*size - 1, size, room, 1}, {1, size, room, 1}, {last32, size, room, 1}, {5*size + 2048, 2 * size, below - 2*size, 2},
		{3 * size, size, room, 1}, {4 * size, 1, room, 1}, {3 * size, 2 * size, below - 2*size, 2}, // mapped whole
		{2 * size, 2 * size, below - 2*size, 2}, {2 * size, size + 1, below - 2*size, 2}, {4 * size, 2 * size, below - 2*size, 2}, // mapped in part
		{18 * size, 5 * size, below - 5*size, 5}, {size, 3 * size, below - 3*size, 3}, {5 * size, 4 * size, below - 4*size, 4},
		{8 * size, size, room, 1}, {10 * size, size, 10 * size, 1},
		{room, size, room, 1}, {room, 1, room, 1}, {room, size + 1, below - 2*size, 2}, {room, 2 * size, below - 2*size, 2}, // up to Top, and above it
		{below - 3*size, 3 * size, below - 3*size, 3}, {below - 3*size, 4 * size, below - 4*size, 4},
		{top, size, room, 1}, {top, 2 * size, below - 2*size, 2}, {top + size, size, room, 1}, {top + 5*size, size, room, 1}, {0x7fff0000, size, room, 1},
		{lastPage * size, size, room, 1}, {lastPage * size, 2 * size, below - 2*size, 2}, {(lastPage - 1) * size, size, room, 1}, {(allPages - 3) * size, 9 * size, below - 9*size, 9},
	} {
		maps(t, "not fixed", s, row.a, row.n, 1, false, row.at, row.pages)
	}
	for prot := range 8 {
		maps(t, "a prot", s, 5*size, size, prot, false, 5*size, 1)
		maps(t, "a prot", s, 0, size, prot, false, room, 1)
	}
	empty := space(t, 0, 0)
	maps(t, "just 256 pages", empty, 0, most*size, 3, false, top-most*size, most)
	maps(t, "just 256 pages", empty, 4*size, most*size, 3, false, 4*size, most)
	maps(t, "just 256 pages, up to Top", empty, top-most*size, most*size, 3, false, top-most*size, most)
	maps(t, "just 256 pages, above Top", empty, top-most*size+size, most*size, 3, false, top-most*size, most)
	heap := space(t, 8*size, 20*size, 8) // the heap is asked about for free room alone
	maps(t, "in the heap, where it is not mapped", heap, 12*size, size, 3, false, 12*size, 1)
	heap = space(t, top-8*size, top)
	maps(t, "in the heap, up to Top", heap, top-2*size, 2*size, 3, false, top-2*size, 2)
	maps(t, "in the heap, above Top", heap, top-2*size, 2*size+1, 3, false, top-11*size, 3)
}

// P6.1: free room is the highest that there is, below Top, between pages, beside the heap, and not at 0.
func TestFreeRoom(t *testing.T) {
	near := func(below ...uint32) (pages []uint32) { // so many pages below Top
		for _, b := range below {
			pages = append(pages, topNext-b)
		}
		return pages
	}
	for what, row := range map[string]struct {
		start, end uint32
		pages      []uint32
		n          uint32 // pages that are asked for
		below      uint32 // where there is room: so many pages below Top
	}{
		"right below Top":                    {0, 0, nil, 1, 1},
		"right below Top, three":             {0, 0, nil, 3, 3},
		"below a page at Top":                {0, 0, near(1), 1, 2},
		"above Top is no room, nor in a way": {0, 0, []uint32{topNext, topNext + 1, lastPage}, 2, 2},
		"above a page":                       {0, 0, near(3), 2, 2},
		"above a page, too little":           {0, 0, near(2), 2, 4},
		"between pages, just enough":         {0, 0, near(1, 4), 2, 3},
		"between pages, more than enough":    {0, 0, near(1, 8), 2, 3},
		"between pages, too little":          {0, 0, near(1, 3), 2, 5},
		"the highest of several":             {0, 0, near(1, 3, 6, 10, 20), 2, 5},
		"the highest of several, greater":    {0, 0, near(1, 3, 6, 10, 20), 3, 9},
		"the highest of several, below all":  {0, 0, near(1, 3, 6, 10, 20), 10, 30},
		"pages at either end of one":         {0, 0, near(1, 2, 3, 7, 8), 3, 6},
		"above the heap":                     {top - 8*size, top - 5*size, nil, 5, 5},
		"above the heap, too little":         {top - 8*size, top - 5*size, nil, 6, 14},
		"below the heap":                     {top - 8*size, top, nil, 1, 9},
		"below a heap that ends above Top":   {top - 8*size, top + 5*size, nil, 2, 10},
		"below a heap that ends at 2^32":     {top - 8*size, last32, nil, 2, 10},
		"below a heap's greatest whole end":  {top - 8*size, lastPage * size, nil, 2, 10},
		"a heap above Top":                   {top, top + 5*size, nil, 2, 2},
		"the last page is only begun":        {top - 8*size, top - 6*size + 1, nil, 5, 5},
		"the last page is only begun, six":   {top - 8*size, top - 6*size + 1, nil, 6, 14},
		"one byte less":                      {top - 8*size, top - 6*size, nil, 6, 6},
		"one byte alone":                     {top - 8*size, top - 8*size + 1, nil, 8, 16},
		"a heap of no bytes":                 {top - 8*size, top - 8*size, nil, 9, 9},
		"a heap of no bytes, pages about it": {top - 8*size, top - 8*size, near(4, 12), 7, 11},
		"above a heap, pages in it":          {top - 8*size, top - 5*size, near(8, 7, 6), 5, 5},
		"below a heap, its pages mapped":     {top - 8*size, top - 5*size, near(8, 7, 6), 6, 14},
		"a heap with some of its pages":      {top - 8*size, top - 2*size, near(8, 5), 3, 11},
		"a page on the heap, and one below":  {top - 8*size, top - 5*size, near(5, 4, 12), 3, 3},
		"between a page and the heap below":  {top - 9*size, top - 5*size, near(1, 2), 3, 5},
		"between the heap and a page below":  {top - 4*size, top, near(9), 4, 8},
		"a page that the heap ends within":   {top - 8*size, top - 5*size - 1, near(6), 5, 5},
	} {
		maps(t, what, space(t, row.start, row.end, row.pages...), 0, row.n*size, 1, false, top-row.below*size, row.n)
	}
}

// P6.1: there is no free room where the heap leaves too little; page 0 is none, even if it is free.
func TestNoFreeRoom(t *testing.T) {
	low := space(t, 3*size, top) // pages 1 and 2 are left
	maps(t, "one page", low, 0, size, 3, false, 2*size, 1)
	maps(t, "two pages", low, 0, 2*size, 3, false, size, 2)
	refuses(t, "three pages, of which one is page 0", low, 0, 3*size, 3, false, api.ErrMem)
	maps(t, "three pages, fixed", low, 0, 3*size, 3, true, 0, 3)
	refuses(t, "256 pages", low, 0, most*size, 3, false, api.ErrMem)
	refuses(t, "an address that is asked for, but mapped", space(t, size, top, 5), 5*size, size, 3, false, api.ErrMem)
	maps(t, "an address that is asked for, in the heap", space(t, size, top, 5), 6*size, size, 3, false, 6*size, 1)
	high := space(t, 0, top-2*size, topNext-1) // one page is left
	maps(t, "the last one", high, 0, size, 3, false, top-2*size, 1)
	refuses(t, "two pages", high, 0, 2*size, 3, false, api.ErrMem)
	for _, end := range []uint32{top - size + 1, top - 1, top, top + 1, top + size, last32 - 4095, last32 - 4094, last32} {
		refuses(t, "all is heap", space(t, size, end), 0, size, 3, false, api.ErrMem)
		refuses(t, "all is heap", space(t, 0, end), 0, size, 3, false, api.ErrMem)
		refuses(t, "all is heap, and no bytes", space(t, 0, end), 0, 0, 3, false, api.ErrInval)
		refuses(t, "all is heap, and no page of the host is left", crowded(space(t, size, end), 0), 0, size, 3, false, api.ErrMem)
	}
}

// P6.1: guest.Map's errors, beside which the space is as it was.
func TestMmapGuestErrors(t *testing.T) {
	s := full(t, 8)
	for _, fixed := range []bool{false, true} {
		refuses(t, "a 257th page", s, 4*size, 1, 3, fixed, api.ErrMem)
		refuses(t, "a 257th page over others", s, 7*size, 2*size, 3, fixed, api.ErrMem)
	}
	refuses(t, "a 257th page in free room", s, 0, 1, 3, false, api.ErrMem)
	s.Guest = withoutPages(t, s.Guest, 100, 1)
	maps(t, "the 256th page", s, 100*size, size, 3, false, 100*size, 1)
	refuses(t, "one more", s, 0, size+1, 3, false, api.ErrMem)

	none := crowded(space(t, 0, 0, 20), 0)
	refuses(t, "no page of the host is left", none, 0, size, 3, false, api.ErrFull)
	refuses(t, "no page of the host is left", none, 40*size, size, 3, false, api.ErrFull)
	refuses(t, "no page of the host is left", none, 40*size, size, 3, true, api.ErrFull)
	maps(t, "in one that is there", none, 21*size, 3*size, 3, false, 21*size, 3)
	refuses(t, "and in one that is not", none, 21*size, 4*size, 3, false, api.ErrFull)
	two := crowded(space(t, 0, 0), 2)
	maps(t, "two are left", two, 0, 8*size, 3, false, top-8*size, 8)
	refuses(t, "two are left", two, 0, 8*size+1, 3, false, api.ErrFull)
	refuses(t, "too many pages ahead of that", none, 0, most*size+1, 3, false, api.ErrMem)
	refuses(t, "no bytes ahead of that", none, 0, 0, 3, false, api.ErrInval)
}

// P6.2: Munmap takes those pages away that are there, up to 2^32.
func TestMunmap(t *testing.T) {
	s := space(t, 8*size, 9*size+1, 8, 9, 2, 3, 4, 0, topNext-1, topNext, lastPage-1, lastPage)
	for _, row := range []struct{ a, n, pages uint32 }{
		{3 * size, 1, 1}, {3 * size, size, 1}, {3 * size, size + 1, 2}, {2 * size, 3 * size, 3}, {2*size - size, 9 * size, 9}, {0, size, 1},
		{5 * size, size, 1}, {5 * size, 3 * size, 3}, {30 * size, 100 * size, 100}, {4 * size, 3 * size, 3}, {9 * size, size, 1},
		{top - size, 2 * size, 2}, {top, size, 1}, {5 * size, 1000 * size, 1000},
		{lastPage * size, 1, 1}, {lastPage * size, size, 1}, {(lastPage - 1) * size, 2 * size, 2}, {(lastPage - 1) * size, size + 1, 2},
		{0, last32, allPages}, {0, last32 - 4094, allPages}, {0, last32 - 4095, allPages - 1}, {size, last32 - 4095, allPages - 1}, {top, last32 - top, allPages - topNext},
	} {
		want := cloned(s)
		want.Guest = withoutPages(t, want.Guest, row.a/size, row.pages)
		got, e := Munmap(s, row.a, row.n)
		if e != api.OK {
			t.Errorf("Munmap at %#x, %d: %v", row.a, row.n, e)
		}
		is(t, "Munmap", got, want)
	}
	for _, row := range [][2]uint32{
		{1, size}, {size - 1, size}, {3*size + 1, size}, {3*size + 2048, 1}, {last32, 1}, {1, last32}, {3*size + 1, 0},
		{0, 0}, {3 * size, 0}, {lastPage * size, 0},
		{lastPage * size, size + 1}, {lastPage * size, 2 * size}, {(lastPage - 1) * size, 2*size + 1}, {size, last32 - 4094}, {size, last32}, {lastPage * size, last32}, {top, last32},
	} {
		got, e := Munmap(s, row[0], row[1])
		if e != api.ErrInval {
			t.Errorf("Munmap at %#x, %d: %v", row[0], row[1], e)
		}
		is(t, "Munmap, ErrInval", got, s)
	}
}

// P6.2: Mprotect of pages that are all mapped; of no bytes; what it refuses, the first error that applies.
func TestMprotect(t *testing.T) {
	s := space(t, 8*size, 9*size+1, 8, 9, 2, 3, 4, 0, topNext-1, topNext, lastPage-1, lastPage)
	for _, row := range []struct {
		a, n uint32
		prot int
		last uint32 // the last page that changes; that of a on
	}{
		{0, 1, 0, 0}, {2 * size, 1, 7, 2}, {2 * size, size, 1, 2}, {2 * size, size + 1, 5, 3}, {2 * size, 3 * size, 4, 4}, {3 * size, 2*size - 1, 6, 4}, {8 * size, 2 * size, 2, 9},
		{top - size, 2 * size, 0, topNext}, {top - size, size, 7, topNext - 1}, {lastPage * size, size, 1, lastPage}, {lastPage * size, 1, 0, lastPage}, {(lastPage - 1) * size, 2 * size, 7, lastPage},
	} {
		want := cloned(s)
		for i, p := range want.Guest.Pages {
			if p.N >= row.a/size && p.N <= row.last {
				want.Guest.Pages[i].Prot = row.prot
			}
		}
		got, e := Mprotect(s, row.a, row.n, row.prot)
		if e != api.OK {
			t.Errorf("Mprotect at %#x, %d, %d: %v", row.a, row.n, row.prot, e)
		}
		is(t, "Mprotect", got, want)
	}
	for _, row := range []struct {
		a, n uint32
		prot int
		want api.Errno
	}{
		{2 * size, 0, 0, api.OK}, {5 * size, 0, 7, api.OK}, {0, 0, 1, api.OK}, {lastPage * size, 0, 1, api.OK}, {top + 9*size, 0, 1, api.OK},
		{2 * size, size, -1, api.ErrInval}, {2 * size, size, 8, api.ErrInval}, {2 * size, 0, 8, api.ErrInval}, {5 * size, size, -1, api.ErrInval}, {lastPage * size, last32, 8, api.ErrInval},
		{1, size, 3, api.ErrInval}, {2*size + 1, 0, 3, api.ErrInval}, {3*size - 1, 1, 3, api.ErrInval}, {last32, last32, 3, api.ErrInval}, {2*size + 1, size, 8, api.ErrInval},
		{lastPage * size, size + 1, 1, api.ErrMem}, {lastPage * size, 2 * size, 1, api.ErrMem}, {(lastPage - 1) * size, 2*size + 1, 1, api.ErrMem}, {size, last32, 1, api.ErrMem}, {lastPage * size, last32, 1, api.ErrMem},
		{size, size, 1, api.ErrMem}, {size, 2 * size, 1, api.ErrMem}, {2 * size, 4 * size, 1, api.ErrMem}, {2 * size, 3*size + 1, 1, api.ErrMem}, {4 * size, 5 * size, 1, api.ErrMem},
		{0, last32, 1, api.ErrMem}, {0, last32 - 4094, 1, api.ErrMem}, {0, last32 - 4095, 1, api.ErrMem}, {top, size + 1, 1, api.ErrMem}, {30 * size, 300 * size, 1, api.ErrMem},
	} {
		got, e := Mprotect(s, row.a, row.n, row.prot)
		if e != row.want {
			t.Errorf("Mprotect at %#x, %d, %d: %v; want %v", row.a, row.n, row.prot, e, row.want)
		}
		is(t, "Mprotect as it was", got, s)
	}
	for _, prot := range wrongProts {
		if got, e := Mprotect(s, 2*size, size, prot); e != api.ErrInval || !equal(got, s) {
			t.Errorf("Mprotect by %d: %v", prot, e)
		}
	}
}

// moves fails unless Brk moves the heap's end, so that the guest's memory is what is wanted.
func moves(t *testing.T, what string, s api.Space, a uint32, want api.Guest) {
	t.Helper()
	got, end := Brk(s, a)
	if end != a {
		t.Errorf("%s: Brk to %#x: %#x", what, a, end)
		return
	}
	is(t, what, got, api.Space{Guest: want, Start: s.Start, End: a})
}

// stays fails unless Brk tells the space and its end as they were.
func stays(t *testing.T, what string, s api.Space, a uint32) {
	t.Helper()
	before := cloned(s)
	got, end := Brk(s, a)
	if end != before.End {
		t.Errorf("%s: Brk to %#x: %#x; want %#x", what, a, end, before.End)
	}
	is(t, what, got, before)
}

// P6.3: Brk up maps pages, 3, all 0, from behind the heap's last one on.
func TestBrkUp(t *testing.T) {
	s := space(t, 8*size, 9*size+5, 3, 8, 9, 30)
	for _, row := range []struct{ a, n uint32 }{
		{9*size + 6, 0}, {9*size + 5, 0}, {10*size - 1, 0}, {10 * size, 0}, {10*size + 1, 1}, {11 * size, 1}, {11*size + 1, 2}, {20 * size, 10}, {29*size + 1, 20}, {30 * size, 20},
	} {
		want := s.Guest
		if row.n > 0 {
			want = withPages(t, want, 10, row.n, 3)
		}
		moves(t, "up", s, row.a, want)
	}
	for _, a := range []uint32{30*size + 1, 31 * size, 32 * size, 200 * size} {
		stays(t, "up over a page that is mapped", s, a)
	}
	stays(t, "a page that is mapped right behind", space(t, 8*size, 9*size, 8, 9), 9*size+1)
	moves(t, "a page that is mapped, but in the heap", space(t, 8*size, 9*size+1, 8, 9), 10*size, space(t, 0, 0, 8, 9).Guest)
	for _, start := range []uint32{0, size, 8 * size} { // a heap of no bytes
		none := space(t, start, start)
		moves(t, "none", none, start, none.Guest)
		moves(t, "its first byte", none, start+1, withPages(t, none.Guest, start/size, 1, 3))
		moves(t, "its first page", none, start+size, withPages(t, none.Guest, start/size, 1, 3))
		moves(t, "its second page", none, start+size+1, withPages(t, none.Guest, start/size, 2, 3))
	}
}

// P6.3: Brk stays below Start, and where pages would end above Top, the guest has too many, or the host has none left.
func TestBrkStays(t *testing.T) {
	s := space(t, 8*size, 9*size+5, 3, 8, 9)
	for _, a := range []uint32{0, 1, size, 3 * size, 7 * size, 8*size - 1} {
		stays(t, "below Start", s, a)
	}
	for _, a := range []uint32{top, top + 1, last32 - 4095, last32 - 4094, last32, 300 * size} {
		stays(t, "too many pages", s, a)
	}

	high := space(t, top-9*size, top-2*size)
	moves(t, "up to Top", high, top, withPages(t, high.Guest, topNext-2, 2, 3))
	moves(t, "one byte below Top", high, top-1, withPages(t, high.Guest, topNext-2, 2, 3))
	for _, a := range []uint32{top + 1, top + size, top + size + 1, last32 - 4095, last32} {
		stays(t, "above Top", high, a)
		stays(t, "from Top on", space(t, top, top), a)
	}
	moves(t, "above Top, without more pages", space(t, top, top+1), top+size, api.Guest{Base: whole})
	stays(t, "above Top, with one page more", space(t, top, top+1), top+size+1)
	moves(t, "in the last page of all", space(t, top, last32-9), last32, api.Guest{Base: whole})
	moves(t, "in the last page of all, back", space(t, top, last32), last32-9, api.Guest{Base: whole})
	stays(t, "into the last page of all", space(t, top, lastPage*size), last32)

	s = full(t, 400)
	s.Guest = withoutPages(t, s.Guest, 500, 4)
	s.Start, s.End = 8*size, 8*size
	moves(t, "up to 256 pages", s, 12*size, withPages(t, s.Guest, 8, 4, 3))
	stays(t, "a 257th page", s, 12*size+1)
	empty := space(t, 8*size, 8*size)
	moves(t, "256 pages at once", empty, (8+most)*size, withPages(t, empty.Guest, 8, most, 3))
	stays(t, "257 pages at once", empty, (8+most)*size+1)

	two := crowded(space(t, 8*size, 8*size), 2)
	moves(t, "all pages that the host has left", two, 16*size, withPages(t, two.Guest, 8, 8, 3))
	stays(t, "one more than the host has left", two, 16*size+1)
	none := crowded(space(t, 8*size, 8*size+1, 8), 0)
	moves(t, "in a page that the host has", none, 12*size, withPages(t, none.Guest, 9, 3, 3))
	stays(t, "no page of the host is left", none, 12*size+1)
	moves(t, "no page of the host is left, nor needed", none, 8*size+2, none.Guest)
}

// P6.3: Brk down takes pages away, to Start all of the heap's; those in which the end still is stay with their bytes.
func TestBrkDown(t *testing.T) {
	s := space(t, 8*size, 14*size+5, 3, 7, 8, 9, 10, 12, 13, 14, 15, 16, lastPage)
	for _, row := range []struct{ a, first uint32 }{
		{14*size + 4, 15}, {14*size + 1, 15}, {14 * size, 14}, {14*size - 1, 14}, {13*size + 1, 14}, {13 * size, 13}, {12 * size, 12}, {11*size + 1, 12}, {11 * size, 11}, {10*size + 1, 11},
		{9*size + 1, 10}, {9 * size, 9}, {8*size + 1, 9}, {8 * size, 8},
	} {
		want := s.Guest
		if row.first < 15 {
			want = withoutPages(t, want, row.first, 15-row.first)
		}
		moves(t, "down", s, row.a, want)
	}
	high := space(t, top, last32, topNext-1, topNext, topNext+4, lastPage) // up to 2^32
	moves(t, "down from 2^32", high, lastPage*size, withoutPages(t, high.Guest, lastPage, 1))
	moves(t, "down from 2^32 by less than a page", high, lastPage*size+1, high.Guest)
	moves(t, "down from 2^32 to Start", high, top, withoutPages(t, high.Guest, topNext, allPages-topNext))
	zero := space(t, 0, 2*size, 0, 1)
	moves(t, "down to 0", zero, 0, api.Guest{Base: whole})
}

// P6.5: Brk up and back leaves what was there, and so does one back and up, but for bytes.
func TestBrkBackAndForth(t *testing.T) {
	for _, row := range []struct{ end, pages uint32 }{{8 * size, 0}, {8*size + 1, 1}, {9*size - 1, 1}, {9 * size, 1}, {10*size + 7, 3}} {
		end, s := row.end, space(t, 8*size, row.end, 3, 5)
		if row.pages > 0 {
			s.Guest = withPages(t, s.Guest, 8, row.pages, 3)
		}
		for _, a := range []uint32{8 * size, 8*size + 1, 9 * size, 9*size + 1, 20 * size, 100*size + 1} {
			there, now := Brk(s, a)
			if now != a || !Fit(there) {
				t.Errorf("Brk from %#x to %#x: %#x", end, a, now)
			}
			back, now := Brk(there, end)
			if now != end {
				t.Errorf("Brk from %#x to %#x and back: %#x", end, a, now)
			}
			is(t, "back and forth", back, s)
		}
	}
	s := space(t, 8*size, 10*size, 8, 9)
	there, _ := Brk(s, 9*size)
	back, _ := Brk(there, 10*size)
	want := space(t, 8*size, 10*size, 8)
	want.Guest = withPages(t, want.Guest, 9, 1, 3)
	is(t, "a page that came back is 0", back, want)
}
