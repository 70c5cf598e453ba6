package guest

import (
	"math"
	"slices"
	"testing"

	"ferry/api"
	"ferry/host"
)

const (
	hostSize = 16384
	size     = 4096
	most     = 256
	allPages = 1 << 20
	lastPage = allPages - 1
	whole    = 1 << 32 // bytes of the guest's reach
	topBase  = 1 << 62
	lastByte = math.MaxUint64
	last32   = math.MaxUint32
)

var (
	wrongProts = []int{-1, 8, 9, -8, 15, 1 << 32, 1<<32 + 3, math.MinInt, math.MaxInt}
	bases      = []uint64{0, hostSize, 5 * hostSize, whole, whole - hostSize, topBase - hostSize, topBase}
)

// cloned is a memory of the test's own.
func cloned(g api.Guest) api.Guest {
	return api.Guest{
		Host:  api.Host{Maps: slices.Clone(g.Host.Maps), Cells: slices.Clone(g.Host.Cells)},
		Base:  g.Base,
		Pages: slices.Clone(g.Pages),
	}
}

// equal is the test's own Same.
func equal(a, b api.Guest) bool {
	return a.Base == b.Base && slices.Equal(a.Pages, b.Pages) &&
		slices.Equal(a.Host.Maps, b.Host.Maps) && slices.Equal(a.Host.Cells, b.Host.Cells)
}

// pagesFrom are n pages of the guest in a row.
func pagesFrom(first uint32, n, prot int) []api.Page {
	var out []api.Page
	for i := range n {
		out = append(out, api.Page{N: first + uint32(i), Prot: prot})
	}
	return out
}

// mapsFrom are n pages of the host in a row.
func mapsFrom(page uint64, n, prot int) []api.Map {
	var out []api.Map
	for i := range n {
		out = append(out, api.Map{Page: page + uint64(i), Prot: prot})
	}
	return out
}

// mapped is a memory with pages mapped one by one, which must be allowed.
func mapped(t *testing.T, base uint64, prot int, pages ...uint32) api.Guest {
	t.Helper()
	g := api.Guest{Base: base}
	for _, p := range pages {
		var e api.Errno
		if g, e = Map(g, p, 1, prot); e != api.OK {
			t.Fatalf("Map of page %d: %v", p, e)
		}
	}
	return g
}

// stored is a memory with eight bytes of the host stored, which must be allowed.
func stored(t *testing.T, g api.Guest, at, v uint64) api.Guest {
	t.Helper()
	h, f := host.Store(g.Host, at, 8, v)
	if f != (api.Fault{}) {
		t.Fatalf("Store at %d: %v", at, f)
	}
	g.Host = h
	return g
}

// filled has bytes that are not 0 at the beginning and the end of each of its pages.
func filled(t *testing.T, g api.Guest) api.Guest {
	t.Helper()
	for _, p := range g.Pages {
		at := g.Base + uint64(p.N)*size
		g = stored(t, g, at, uint64(p.N)+1)
		g = stored(t, g, at+size-8, uint64(p.N+1)<<32)
	}
	return g
}

// is fails unless a memory is just what is wanted, and fit.
func is(t *testing.T, what string, got, want api.Guest) {
	t.Helper()
	if !equal(got, want) {
		t.Errorf("%s: %v; want %v", what, got, want)
	}
	if !Fit(got) {
		t.Errorf("%s: %v is not fit", what, got)
	}
}

// without is a memory but for some of the guest's pages, their bytes, and the host's pages in which none is left: what Unmap is to tell.
func without(g api.Guest, gone func(page uint32) bool) api.Guest {
	out := api.Guest{Base: g.Base}
	left := map[uint64]bool{}
	for _, p := range g.Pages {
		if !gone(p.N) {
			out.Pages = append(out.Pages, p)
			left[g.Base/hostSize+uint64(p.N/4)] = true
		}
	}
	for _, m := range g.Host.Maps {
		if far := m.Page < g.Base/hostSize || m.Page >= g.Base/hostSize+whole/hostSize; far || left[m.Page] {
			out.Host.Maps = append(out.Host.Maps, m)
		}
	}
	for _, c := range g.Host.Cells {
		if far := c.At < g.Base || c.At-g.Base >= whole; far || !gone(uint32((c.At-g.Base)/size)) {
			out.Host.Cells = append(out.Host.Cells, c)
		}
	}
	return out
}

// The chapter's example (P4.2, P4.3).
func TestExample(t *testing.T) {
	g, e := Map(api.Guest{Base: whole}, 1, 1, 3)
	one := []api.Map{{Page: 1 << 18, Prot: 3}}
	if e != api.OK {
		t.Errorf("Map of page 1: %v", e)
	}
	is(t, "page 1", g, api.Guest{Base: whole, Host: api.Host{Maps: one}, Pages: pagesFrom(1, 1, 3)})
	if g, e = Map(g, 2, 1, 3); e != api.OK {
		t.Errorf("Map of page 2: %v", e)
	}
	is(t, "pages 1 and 2", g, api.Guest{Base: whole, Host: api.Host{Maps: one}, Pages: pagesFrom(1, 2, 3)})
	if g, e = Unmap(g, 1, 1); e != api.OK {
		t.Errorf("Unmap of page 1: %v", e)
	}
	is(t, "page 2", g, api.Guest{Base: whole, Host: api.Host{Maps: one}, Pages: pagesFrom(2, 1, 3)})
	if g, e = Unmap(g, 2, 1); e != api.OK {
		t.Errorf("Unmap of page 2: %v", e)
	}
	is(t, "none", g, api.Guest{Base: whole})
}

// P4.1: Fit of memories that are.
func TestFit(t *testing.T) {
	one := api.Host{Maps: mapsFrom(0, 1, 3)}
	for i, g := range []api.Guest{
		{},
		{Host: api.Host{Maps: []api.Map{}, Cells: []api.Cell{}}, Pages: []api.Page{}},
		{Base: hostSize}, {Base: topBase}, {Base: topBase - hostSize},
		{Host: one, Pages: pagesFrom(0, 1, 0)}, {Host: one, Pages: pagesFrom(3, 1, 7)}, {Host: one, Pages: pagesFrom(0, 4, 1)},
		{Host: one, Pages: []api.Page{{N: 0, Prot: 1}, {N: 3, Prot: 2}}},
		{Host: api.Host{Maps: mapsFrom(0, 2, 3)}, Pages: pagesFrom(3, 2, 3)},
		{Host: api.Host{Maps: mapsFrom(whole/hostSize-1, 1, 3)}, Pages: pagesFrom(lastPage, 1, 3)},
		{Base: topBase, Host: api.Host{Maps: mapsFrom((topBase+whole)/hostSize-1, 1, 3)}, Pages: pagesFrom(lastPage, 1, 3)},
		{Host: api.Host{Maps: mapsFrom(1, 64, 3)}, Pages: pagesFrom(4, most, 3)},
		{Host: api.Host{Maps: mapsFrom(0, 1, 3), Cells: []api.Cell{{At: size, Word: 1}, {At: 2*size - 8, Word: 1 << 63}}}, Pages: pagesFrom(1, 1, 0)},
		// out of reach: pages of any prot and their bytes, just below Base, and from Base and 2^32 on
		{Base: whole, Host: api.Host{
			Maps:  []api.Map{{Page: 0, Prot: 7}, {Page: 1<<18 - 1, Prot: 0}, {Page: 2 << 18, Prot: 5}},
			Cells: []api.Cell{{At: 8, Word: 1}, {At: whole - 8, Word: 1}, {At: 2 * whole, Word: 1}},
		}},
		{Host: api.Host{Maps: []api.Map{{Page: 1 << 18, Prot: 0}, {Page: 1<<50 - 1, Prot: 7}}, Cells: []api.Cell{{At: whole, Word: 1}, {At: lastByte - 7, Word: 1}}}},
	} {
		if !Fit(g) {
			t.Errorf("fit memory %d: Fit tells false", i)
		}
	}
	for prot := range 8 {
		if !Fit(api.Guest{Host: one, Pages: pagesFrom(2, 1, prot)}) {
			t.Errorf("Prot %d: Fit tells false", prot)
		}
	}
}

// P4.1: Fit of memories with one limb broken alone.
func TestUnfit(t *testing.T) {
	good := func() api.Guest { // pages 5, 6 and 8 from 2^32 on, with bytes, and a page of the host on either side
		return api.Guest{
			Base: whole,
			Host: api.Host{
				Maps:  []api.Map{{Page: 1<<18 - 1, Prot: 1}, {Page: 1<<18 + 1, Prot: 3}, {Page: 1<<18 + 2, Prot: 3}, {Page: 2 << 18, Prot: 1}},
				Cells: []api.Cell{{At: whole + 5*size, Word: 1}, {At: whole + 7*size - 8, Word: 1}, {At: whole + 8*size, Word: 1}},
			},
			Pages: []api.Page{{N: 5, Prot: 1}, {N: 6, Prot: 2}, {N: 8, Prot: 4}},
		}
	}
	if !Fit(good()) {
		t.Fatal("the memory that is broken is not fit")
	}
	cellAt := func(at uint64) func(*api.Guest) {
		return func(g *api.Guest) {
			g.Host.Cells = append(g.Host.Cells, api.Cell{At: at, Word: 1 << 63})
			slices.SortFunc(g.Host.Cells, func(a, b api.Cell) int { return int(int64(a.At - b.At)) })
		}
	}
	page := func(m api.Map) func(*api.Guest) {
		return func(g *api.Guest) {
			g.Host.Maps = append(g.Host.Maps, m)
			slices.SortFunc(g.Host.Maps, func(a, b api.Map) int { return int(a.Page - b.Page) })
		}
	}
	for what, breakIt := range map[string]func(*api.Guest){
		"the host: a prot":               func(g *api.Guest) { g.Host.Maps[0].Prot = 8 },
		"the host: pages that fall":      func(g *api.Guest) { g.Host.Maps[3].Page = 0 },
		"the host: a cell of 0":          func(g *api.Guest) { g.Host.Cells[1].Word = 0 },
		"the host: a cell on no page":    func(g *api.Guest) { g.Host.Cells[0].At = 0 },
		"the host: a cell at no cell":    func(g *api.Guest) { g.Host.Cells[0].At++ },
		"the host: a page above all":     func(g *api.Guest) { g.Host.Maps[3].Page = 1 << 50 },
		"the host: too many pages":       func(g *api.Guest) { g.Host.Maps = append(g.Host.Maps, mapsFrom(3<<18, 61, 3)...) },
		"Base of no multiple":            func(g *api.Guest) { g.Base++ },
		"a page twice":                   func(g *api.Guest) { g.Pages = slices.Insert(g.Pages, 0, g.Pages[0]) },
		"the last page twice":            func(g *api.Guest) { g.Pages = append(g.Pages, g.Pages[2]) },
		"pages that fall":                func(g *api.Guest) { g.Pages[0].N, g.Pages[1].N = 6, 5 },
		"a prot below":                   func(g *api.Guest) { g.Pages[0].Prot = -1 },
		"a prot above":                   func(g *api.Guest) { g.Pages[2].Prot = 8 },
		"a page that is not backed":      func(g *api.Guest) { g.Pages = append(g.Pages, api.Page{N: 12, Prot: 3}) },
		"a page ahead, not backed":       func(g *api.Guest) { g.Pages = slices.Insert(g.Pages, 0, api.Page{N: 3, Prot: 3}) },
		"a host's page of none":          page(api.Map{Page: 1<<18 + 3, Prot: 3}),
		"the first host's page, of none": page(api.Map{Page: 1 << 18, Prot: 3}),
		"the last host's page, of none":  page(api.Map{Page: 2<<18 - 1, Prot: 3}),
		"a host's page to read alone":    func(g *api.Guest) { g.Host.Maps[1].Prot = 1 },
		"a host's page to write alone":   func(g *api.Guest) { g.Host.Maps[2].Prot = 2 },
		"a host's page to execute too":   func(g *api.Guest) { g.Host.Maps[1].Prot = 7 },
		"a host's page of no right":      func(g *api.Guest) { g.Host.Maps[1].Prot = 0 },
		"a byte just ahead of a page":    cellAt(whole + 5*size - 8),
		"a byte just behind a page":      cellAt(whole + 7*size),
		"a byte ahead of page 8":         cellAt(whole + 8*size - 8),
		"a byte behind page 8":           cellAt(whole + 9*size),
		"a byte at a host's page's end":  cellAt(whole + 12*size - 8),
	} {
		g := good()
		if breakIt(&g); Fit(g) {
			t.Errorf("%s: Fit tells true", what)
		}
	}
}

// P4.1: Fit at the edges that need a memory of their own.
func TestUnfitEdges(t *testing.T) {
	for what, g := range map[string]api.Guest{
		"Base above 2^62":           {Base: topBase + hostSize},
		"Base of 2^63":              {Base: 1 << 63},
		"the last Base":             {Base: lastByte - hostSize + 1},
		"Base of 1":                 {Base: 1},
		"Base of a guest's page":    {Base: size},
		"Base of half a page":       {Base: whole + hostSize/2},
		"Base just above 2^62":      {Base: topBase + 1},
		"a page above all":          {Host: api.Host{Maps: mapsFrom(1<<18, 1, 3)}, Pages: pagesFrom(allPages, 1, 3)},
		"a page that wraps to 0":    {Host: api.Host{Maps: mapsFrom(0, 1, 3)}, Pages: pagesFrom(allPages, 1, 3)},
		"the last page of 32 bits":  {Host: api.Host{Maps: mapsFrom(1<<30-1, 1, 3)}, Pages: pagesFrom(last32, 1, 3)},
		"257 pages":                 {Host: api.Host{Maps: mapsFrom(0, 65, 3)}, Pages: pagesFrom(0, most+1, 3)},
		"257 pages of which a twin": {Host: api.Host{Maps: mapsFrom(0, 64, 3)}, Pages: append(pagesFrom(0, most, 3), api.Page{N: most - 1, Prot: 3})},
		"a page, nothing mapped":    {Pages: pagesFrom(0, 1, 3)},
		"a page mapped elsewhere":   {Base: whole, Host: api.Host{Maps: mapsFrom(0, 1, 3)}, Pages: pagesFrom(0, 1, 3)},
		"mapped, no page":           {Host: api.Host{Maps: mapsFrom(0, 1, 3)}},
		"a byte, no page beside":    {Host: api.Host{Maps: mapsFrom(0, 1, 3), Cells: []api.Cell{{At: size, Word: 1}}}, Pages: pagesFrom(0, 1, 3)},
	} {
		if Fit(g) {
			t.Errorf("%s: Fit tells true", what)
		}
	}
}

// P4.1: Same, of fit memories and of others.
func TestSame(t *testing.T) {
	all := []api.Guest{
		{},
		{Base: 1}, {Base: hostSize}, {Base: lastByte},
		{Pages: pagesFrom(0, 1, 3)}, {Pages: pagesFrom(0, 1, 1)}, {Pages: pagesFrom(1, 1, 3)}, {Pages: pagesFrom(0, 2, 3)},
		{Pages: []api.Page{{N: 1, Prot: 3}, {N: 0, Prot: 3}}}, {Pages: pagesFrom(0, 1, -7)}, {Pages: pagesFrom(last32, 1, 3)},
		{Host: api.Host{Maps: mapsFrom(0, 1, 3)}}, {Host: api.Host{Maps: mapsFrom(0, 1, 1)}}, {Host: api.Host{Maps: mapsFrom(1, 1, 3)}},
		{Host: api.Host{Cells: []api.Cell{{At: 8, Word: 1}}}}, {Host: api.Host{Cells: []api.Cell{{At: 8, Word: 0}}}}, {Host: api.Host{Cells: []api.Cell{{At: 3, Word: 1}}}},
		{Host: api.Host{Maps: mapsFrom(0, 1, 3)}, Pages: pagesFrom(0, 1, 3)},
		{Base: hostSize, Host: api.Host{Maps: mapsFrom(1, 1, 3)}, Pages: pagesFrom(0, 1, 3)},
	}
	for i, a := range all {
		for j, b := range all {
			if Same(a, cloned(b)) != (i == j) {
				t.Errorf("Same of %v and %v: %v", a, b, i != j)
			}
		}
	}
	if !Same(api.Guest{}, api.Guest{Host: api.Host{Maps: []api.Map{}, Cells: []api.Cell{}}, Pages: []api.Page{}}) { // an empty list is none (0.7)
		t.Error("Same of empty lists and none: false")
	}
}

// P4.1: Prot, of pages that are there and of others, at the edges of the addresses.
func TestProt(t *testing.T) {
	g := api.Guest{Base: whole}
	for i, p := range []uint32{0, 1, 7, 8, 1000, lastPage} {
		g, _ = Map(g, p, 1, i+2)
	}
	for page, want := range map[uint32]int{
		0: 2, 1: 3, 7: 4, 8: 5, 1000: 6, lastPage: 7,
		2: -1, 3: -1, 6: -1, 9: -1, 999: -1, 1001: -1, lastPage - 1: -1,
		allPages: -1, allPages + 1: -1, allPages + 7: -1, 1 << 31: -1, last32: -1,
	} {
		if got := Prot(g, page); got != want {
			t.Errorf("Prot of page %d: %d; want %d", page, got, want)
		}
	}
	for prot := range 8 {
		if got := Prot(mapped(t, 0, prot, 5), 5); got != prot {
			t.Errorf("Prot: %d; want %d", got, prot)
		}
	}
	if got := Prot(api.Guest{}, 0); got != -1 {
		t.Errorf("Prot of nothing: %d", got)
	}
}

// P4.1: Place, at each Base, of addresses up to the end of 32 bits, whether mapped or not.
func TestPlace(t *testing.T) {
	for _, base := range bases {
		for _, g := range []api.Guest{{Base: base}, mapped(t, base, 3, 0, lastPage)} {
			for _, a := range []uint32{0, 1, size - 1, size, hostSize + 1, 1 << 31, last32 - 1, last32} {
				if got, want := Place(g, a), base+uint64(a); got != want {
					t.Errorf("Place of %d with Base %d: %d; want %d", a, base, got, want)
				}
			}
		}
	}
	if got := Place(api.Guest{Base: topBase}, last32); got != 0x40000000ffffffff {
		t.Errorf("the last place: %#x", got)
	}
}

// wrongPages are pages of which the guest has not all, or that are none.
var wrongPages = []struct{ first, n uint32 }{
	{0, 0}, {5, 0}, {lastPage, 0}, {allPages, 0}, {last32, 0},
	{allPages, 1}, {lastPage, 2}, {0, allPages + 1}, {1, allPages}, {allPages - 3, 4}, {allPages - 255, 256}, {allPages / 2, allPages/2 + 1},
	{last32, 1}, {1, last32}, {last32, 2}, {2, last32}, {last32, last32}, {1 << 31, 1 << 31}, {1<<31 + 5, 1 << 31}, {last32 - 3, 10}, {5, last32 - 3},
	{0, last32}, {last32 - 1, 1}, {1 << 31, 1}, {5, 1 << 31},
}

// P4.2 to P4.4: what Map, Unmap and Protect begin with; a memory that stays.
func TestWrongPages(t *testing.T) {
	full := api.Guest{Host: api.Host{Maps: mapsFrom(0, 64, 3), Cells: []api.Cell{{At: 32768, Word: 1}}}, Pages: pagesFrom(0, most, 3)}
	for _, g := range []api.Guest{{}, filled(t, mapped(t, whole, 3, 5, 6)), filled(t, mapped(t, topBase, 3, 0, lastPage)), full} {
		refused := func(what string, first, n uint32, prot int, got api.Guest, e api.Errno) {
			t.Helper()
			if e != api.ErrInval || !equal(got, g) {
				t.Errorf("%s of page %d, %d, %d: %v, %v", what, first, n, prot, got, e)
			}
		}
		for _, w := range wrongPages {
			for _, prot := range []int{0, 3, 7, 8, -1} {
				got, e := Map(g, w.first, w.n, prot)
				refused("Map", w.first, w.n, prot, got, e)
				got, e = Protect(g, w.first, w.n, prot)
				refused("Protect", w.first, w.n, prot, got, e)
			}
			got, e := Unmap(g, w.first, w.n)
			refused("Unmap", w.first, w.n, 0, got, e)
		}
		for _, prot := range wrongProts {
			for _, n := range []uint32{1, most + 1, allPages - 5} { // too many, or not there: ErrInval is named first
				got, e := Map(g, 5, n, prot)
				refused("Map", 5, n, prot, got, e)
				got, e = Protect(g, 5, n, prot)
				refused("Protect", 5, n, prot, got, e)
			}
		}
	}
}

// P4.2: Map, ahead of, between and behind others, with each prot: the pages stand in order, the host's are those that are needed.
func TestMap(t *testing.T) {
	for _, base := range bases {
		from := base / hostSize
		g := api.Guest{Base: base}
		want := api.Guest{Base: base}
		for _, row := range []struct {
			first, n uint32
			prot     int
			at       int // where the pages come to stand
			maps     []api.Map
		}{
			{5, 1, 0, 0, mapsFrom(from+1, 1, 3)},
			{7, 2, 7, 1, mapsFrom(from+1, 2, 3)},
			{6, 1, 1, 1, mapsFrom(from+1, 2, 3)},
			{4, 1, 4, 0, mapsFrom(from+1, 2, 3)},
			{3, 1, 2, 0, mapsFrom(from, 3, 3)},
			{lastPage, 1, 5, 6, append(mapsFrom(from, 3, 3), api.Map{Page: from + 1<<18 - 1, Prot: 3})},
			{19, 6, 6, 6, append(append(mapsFrom(from, 3, 3), mapsFrom(from+4, 3, 3)...), api.Map{Page: from + 1<<18 - 1, Prot: 3})},
			{12, 4, 3, 6, append(mapsFrom(from, 7, 3), api.Map{Page: from + 1<<18 - 1, Prot: 3})},
		} {
			got, e := Map(g, row.first, row.n, row.prot)
			if e != api.OK {
				t.Errorf("Map of page %d, %d: %v", row.first, row.n, e)
			}
			want.Pages = slices.Insert(slices.Clone(want.Pages), row.at, pagesFrom(row.first, int(row.n), row.prot)...)
			want.Host.Maps = row.maps
			is(t, "Map", got, want)
			g = got
		}
	}
}

// P4.2, P4.5: pages that are there are mapped anew with the rest: their prot, their bytes of 0; those beside keep theirs.
func TestMapAnew(t *testing.T) {
	old := filled(t, mapped(t, whole, 2, 3, 4, 5, 7, 8, 10))
	for _, row := range []struct{ first, n uint32 }{
		{3, 1}, {4, 1}, {5, 1}, {4, 2}, {5, 3}, {3, 3}, {6, 1}, {6, 4}, {2, 2}, {0, 12}, {7, 4}, {8, 3}, {10, 1}, {9, 2}, {11, 1}, {10, 6}, {0, 3}, {3, most - 3},
	} {
		among := func(page uint32) bool { return page >= row.first && page < row.first+row.n }
		want := without(old, among)
		want.Pages = append(want.Pages, pagesFrom(row.first, int(row.n), 5)...)
		slices.SortFunc(want.Pages, func(a, b api.Page) int { return int(a.N) - int(b.N) })
		want.Host.Maps = nil
		for _, p := range want.Pages {
			want.Host.Maps = append(want.Host.Maps, api.Map{Page: 1<<18 + uint64(p.N/4), Prot: 3})
		}
		want.Host.Maps = slices.Compact(want.Host.Maps)
		got, e := Map(old, row.first, row.n, 5)
		if e != api.OK {
			t.Errorf("Map of page %d, %d: %v", row.first, row.n, e)
		}
		is(t, "Map anew", got, want)
	}
}

// P4.2: as many pages as 256, and one more; pages that are there count once; ErrMem is named ahead of ErrFull.
func TestMapMost(t *testing.T) {
	for _, had := range []int{0, 1, 100, most - 1, most} {
		g := api.Guest{Base: whole, Host: api.Host{Maps: mapsFrom(1<<18+1, (had+3)/4, 3)}, Pages: pagesFrom(4, had, 1)}
		if !Fit(g) {
			t.Fatalf("%d pages: not fit", had)
		}
		for _, row := range []struct {
			first, n uint32
			want     api.Errno
		}{
			{4, most, api.OK}, // over all that were there
			{4, most + 1, api.ErrMem}, {3, most + 1, api.ErrMem}, {0, most + 1, api.ErrMem},
			{0, allPages, api.ErrMem}, {4, allPages - 4, api.ErrMem}, {0, 1 << 19, api.ErrMem},
			{400, uint32(most - had + 1), api.ErrMem},
			{uint32(4 + had), uint32(most - had + 1), api.ErrMem},
		} {
			got, e := Map(g, row.first, row.n, 2)
			if e != row.want {
				t.Errorf("Map of page %d, %d beside %d: %v; want %v", row.first, row.n, had, e, row.want)
			}
			want := g
			if e == api.OK {
				want = api.Guest{Base: whole, Host: api.Host{Maps: mapsFrom(1<<18+1, 64, 3)}, Pages: pagesFrom(4, most, 2)}
			}
			is(t, "Map", got, want)
		}
		if had == most {
			continue
		}
		got, e := Map(g, uint32(4+had), uint32(most-had), 2)
		if e != api.OK {
			t.Errorf("Map of the rest beside %d: %v", had, e)
		}
		is(t, "all pages", got, api.Guest{Base: whole, Host: api.Host{Maps: mapsFrom(1<<18+1, 64, 3)}, Pages: append(pagesFrom(4, had, 1), pagesFrom(uint32(4+had), most-had, 2)...)})
	}
}

// P4.2: pages that need as many of the host's as there is room for, and one more; those that are mapped already need none.
func TestMapFull(t *testing.T) {
	for _, elsewhere := range []int{0, 1, 40, 63, 64} {
		room := uint32(64 - elsewhere)
		g := api.Guest{Base: whole, Host: api.Host{Maps: mapsFrom(7, elsewhere, 5)}}
		if elsewhere > 0 {
			g.Host.Cells = []api.Cell{{At: 7 * hostSize, Word: 1}}
		}
		refused := func(what string, g api.Guest, first, n uint32) {
			t.Helper()
			if got, e := Map(g, first, n, 3); e != api.ErrFull || !equal(got, g) {
				t.Errorf("%s: Map of page %d, %d beside %d: %v, %v", what, first, n, elsewhere, got, e)
			}
		}
		if elsewhere > 0 { // at 0 elsewhere, more than 64 of the host's need more than 256 of the guest's, or pages apart
			refused("one too many", g, 0, 4*room+1)
			refused("one too many", g, 8, 4*room+4)
		}
		refused("over a border", g, 3, 4*(room-min(room, 1))+2)
		if room == 0 {
			continue
		}
		full, e := Map(g, 4, 4*room, 3)
		if e != api.OK {
			t.Errorf("Map of all room beside %d: %v", elsewhere, e)
		}
		is(t, "all room", full, api.Guest{Base: whole, Host: api.Host{Maps: append(mapsFrom(7, elsewhere, 5), mapsFrom(1<<18+1, int(room), 3)...), Cells: g.Host.Cells}, Pages: pagesFrom(4, int(4*room), 3)})
		part, e := Unmap(full, 5, 3) // page 4 holds the host's page
		if e != api.OK {
			t.Error(e)
		}
		refused("ahead", part, 3, 1)
		refused("behind", part, 4+4*room, 1)
		refused("far", part, lastPage, 1)
		refused("from there to behind", part, 3+4*room, 2)
		if got, e := Map(part, 4, 4, 3); e != api.OK || !equal(got, full) {
			t.Errorf("Map of what needs no page of the host beside %d: %v", elsewhere, e)
		}
		free, e := Unmap(full, 4, 4)
		if e != api.OK {
			t.Error(e)
		}
		if got, e := Map(free, lastPage, 1, 3); e != api.OK || !Fit(got) {
			t.Errorf("Map in a room that came back beside %d: %v", elsewhere, e)
		}
	}
}

// P4.2: pages apart, each of which needs a page of the host: 64, and one more.
func TestMapApart(t *testing.T) {
	g := api.Guest{}
	for i := range uint32(64) {
		var e api.Errno
		if g, e = Map(g, 4*i+i%4, 1, 3); e != api.OK {
			t.Fatalf("page %d: %v", i, e)
		}
	}
	is(t, "64 apart", g, api.Guest{Host: api.Host{Maps: mapsFrom(0, 64, 3)}, Pages: g.Pages})
	if got, e := Map(g, 256, 1, 3); e != api.ErrFull || !equal(got, g) {
		t.Errorf("one more: %v, %v", got, e)
	}
	if got, e := Map(g, 255, 2, 3); e != api.ErrFull || !equal(got, g) {
		t.Errorf("one that needs none, and one more: %v, %v", got, e)
	}
	if got, e := Map(g, 256, 193, 3); e != api.ErrMem || !equal(got, g) {
		t.Errorf("too many of both: %v, %v", got, e)
	}
	got, e := Map(g, 0, 256, 3)
	if e != api.OK {
		t.Errorf("all that need none: %v", e)
	}
	is(t, "all that need none", got, api.Guest{Host: g.Host, Pages: pagesFrom(0, 256, 3)})
}

// P4.3, P4.5: Unmap, of pages of which all, some or none are there, with their bytes and the host's pages.
func TestUnmap(t *testing.T) {
	for _, base := range bases {
		g := filled(t, mapped(t, base, 3, 0, 3, 4, 5, 6, 7, 9, 18, lastPage-1, lastPage))
		for _, row := range []struct{ first, n uint32 }{
			{0, 1}, {1, 1}, {1, 2}, {3, 1}, {3, 2}, {0, 4}, {4, 1}, {4, 2}, {4, 3}, {4, 4}, {5, 3}, {5, 2}, {7, 1}, {7, 2}, {3, 5}, {3, 7}, {6, 4},
			{8, 1}, {8, 4}, {9, 1}, {10, 8}, {10, 9}, {16, 2}, {18, 1}, {16, 3}, {0, 20}, {20, 1000}, {lastPage, 1}, {lastPage - 1, 1}, {lastPage - 1, 2}, {lastPage - 3, 4},
			{0, allPages}, {1, lastPage}, {0, lastPage}, {6, allPages - 6}, {4, allPages / 2},
		} {
			want := without(g, func(page uint32) bool { return page >= row.first && page-row.first < row.n })
			got, e := Unmap(g, row.first, row.n)
			if e != api.OK {
				t.Errorf("Unmap of page %d, %d: %v", row.first, row.n, e)
			}
			is(t, "Unmap", got, want)
		}
		if got, e := Unmap(g, 0, allPages); e != api.OK || got.Pages != nil || got.Host.Maps != nil || got.Host.Cells != nil {
			t.Errorf("Unmap of all: %v, %v", got, e)
		}
	}
	if got, e := Unmap(api.Guest{Base: whole}, 3, 1); e != api.OK || !equal(got, api.Guest{Base: whole}) {
		t.Errorf("Unmap of nothing: %v, %v", got, e)
	}
}

// P4.3, P4.5: pages of one page of the host, taken away in each order: it stays until the last went, with the bytes of those that are left.
func TestPartial(t *testing.T) {
	for _, order := range [][]uint32{{4, 5, 6, 7}, {7, 6, 5, 4}, {5, 4, 7, 6}, {6, 7, 4, 5}, {4, 7, 5, 6}} {
		g := filled(t, mapped(t, whole, 3, 3, 4, 5, 6, 7, 8))
		for i, page := range order {
			want := without(g, func(p uint32) bool { return p == page })
			g, _ = Unmap(g, page, 1)
			is(t, "Unmap of one of four", g, want)
			if there := slices.Contains(g.Host.Maps, api.Map{Page: 1<<18 + 1, Prot: 3}); there != (i < 3) {
				t.Errorf("%v: the host's page is there %v, with %d pages gone", order, there, i+1)
			}
		}
	}
	g := filled(t, mapped(t, whole, 3, 4, 6)) // a page that comes back, beside one that stayed, is 0
	got, _ := Unmap(g, 4, 1)
	got, e := Map(got, 4, 1, 3)
	if e != api.OK {
		t.Error(e)
	}
	is(t, "came back", got, api.Guest{Base: whole, Host: api.Host{Maps: g.Host.Maps, Cells: g.Host.Cells[2:]}, Pages: g.Pages})
}

// P4.4: Protect, of one page, of all, and where one is missing; neither bytes nor the host's pages change.
func TestProtect(t *testing.T) {
	g := filled(t, mapped(t, topBase, 3, 3, 4, 5, 9, lastPage))
	for _, row := range []struct {
		first, n uint32
		prots    [5]int
		e        api.Errno
	}{
		{3, 1, [5]int{6, 3, 3, 3, 3}, api.OK}, {4, 1, [5]int{3, 6, 3, 3, 3}, api.OK}, {5, 1, [5]int{3, 3, 6, 3, 3}, api.OK},
		{3, 2, [5]int{6, 6, 3, 3, 3}, api.OK}, {4, 2, [5]int{3, 6, 6, 3, 3}, api.OK}, {3, 3, [5]int{6, 6, 6, 3, 3}, api.OK},
		{9, 1, [5]int{3, 3, 3, 6, 3}, api.OK}, {lastPage, 1, [5]int{3, 3, 3, 3, 6}, api.OK},
		{2, 1, [5]int{3, 3, 3, 3, 3}, api.ErrMem}, {2, 2, [5]int{3, 3, 3, 3, 3}, api.ErrMem}, {3, 4, [5]int{3, 3, 3, 3, 3}, api.ErrMem},
		{3, 7, [5]int{3, 3, 3, 3, 3}, api.ErrMem}, {5, 2, [5]int{3, 3, 3, 3, 3}, api.ErrMem}, {5, 5, [5]int{3, 3, 3, 3, 3}, api.ErrMem}, {6, 3, [5]int{3, 3, 3, 3, 3}, api.ErrMem},
		{0, 1, [5]int{3, 3, 3, 3, 3}, api.ErrMem}, {0, allPages, [5]int{3, 3, 3, 3, 3}, api.ErrMem}, {3, allPages - 3, [5]int{3, 3, 3, 3, 3}, api.ErrMem},
		{lastPage - 1, 2, [5]int{3, 3, 3, 3, 3}, api.ErrMem}, {3, most + 3, [5]int{3, 3, 3, 3, 3}, api.ErrMem},
	} {
		want := cloned(g)
		for i := range want.Pages {
			want.Pages[i].Prot = row.prots[i]
		}
		got, e := Protect(g, row.first, row.n, 6)
		if e != row.e {
			t.Errorf("Protect of page %d, %d: %v; want %v", row.first, row.n, e, row.e)
		}
		is(t, "Protect", got, want)
	}
	for prot := range 8 {
		if got, e := Protect(g, 9, 1, prot); e != api.OK || got.Pages[3].Prot != prot || !Fit(got) {
			t.Errorf("Protect by %d: %v, %v", prot, got, e)
		}
	}
	all := api.Guest{Host: api.Host{Maps: mapsFrom(0, 64, 3)}, Pages: pagesFrom(0, most, 1)}
	if got, e := Protect(all, 0, most, 4); e != api.OK || !slices.Equal(got.Pages, pagesFrom(0, most, 4)) {
		t.Errorf("Protect of 256: %v", e)
	}
	if got, e := Protect(all, 0, most+1, 4); e != api.ErrMem || !equal(got, all) {
		t.Errorf("Protect of 257: %v", e)
	}
	if got, e := Protect(api.Guest{}, 0, 1, 4); e != api.ErrMem || !equal(got, api.Guest{}) {
		t.Errorf("Protect of nothing: %v, %v", got, e)
	}
}

// P4.6: pages of the host just below Base, and just from Base and 2^32 on, stay with their bytes, whatever is done up to the reach's borders.
func TestOutOfReach(t *testing.T) {
	for _, base := range bases {
		from, to := base/hostSize, (base+whole)/hostSize
		out := api.Host{Maps: mapsFrom(to, 2, 0), Cells: []api.Cell{{At: base + whole, Word: lastByte}, {At: base + whole + 2*hostSize - 8, Word: 5}}}
		if base > 0 {
			out.Maps = slices.Concat(mapsFrom(from-1, 1, 7), out.Maps)
			out.Cells = slices.Concat([]api.Cell{{At: base - hostSize, Word: 9}, {At: base - 8, Word: lastByte}}, out.Cells)
		}
		old := api.Guest{Base: base, Host: out}
		if !Fit(old) {
			t.Fatalf("Base %d: not fit", base)
		}
		far := func(g api.Guest) (h api.Host) {
			for _, m := range g.Host.Maps {
				if m.Page < from || m.Page >= to {
					h.Maps = append(h.Maps, m)
				}
			}
			for _, c := range g.Host.Cells {
				if c.At < base || c.At >= base+whole {
					h.Cells = append(h.Cells, c)
				}
			}
			return h
		}
		g := old
		for i, call := range []func() (api.Guest, api.Errno){
			func() (api.Guest, api.Errno) { return Map(g, 0, 5, 3) },
			func() (api.Guest, api.Errno) { return Map(g, lastPage-4, 5, 3) },
			func() (api.Guest, api.Errno) { return filled(t, g), api.OK },
			func() (api.Guest, api.Errno) { return Map(g, lastPage, 1, 7) },
			func() (api.Guest, api.Errno) { return Map(g, 0, 1, 0) },
			func() (api.Guest, api.Errno) { return filled(t, g), api.OK },
			func() (api.Guest, api.Errno) { return Protect(g, 0, 5, 0) },
			func() (api.Guest, api.Errno) { return Protect(g, lastPage-4, 5, 0) },
			func() (api.Guest, api.Errno) { return Unmap(g, 0, 1) },
			func() (api.Guest, api.Errno) { return Unmap(g, lastPage, 1) },
			func() (api.Guest, api.Errno) { return Unmap(g, 0, allPages) },
		} {
			var e api.Errno
			if g, e = call(); e != api.OK || !Fit(g) || !host.Same(far(g), out) {
				t.Errorf("Base %d, call %d: %v, %v; want %v", base, i, far(g), e, out)
			}
		}
		is(t, "all is as it was", g, old)
		if got, e := Map(old, 0, 250, 3); e != api.ErrFull || !equal(got, old) {
			t.Errorf("Base %d: Map with no room: %v, %v", base, got, e)
		}
	}
}
