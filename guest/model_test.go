package guest

import (
	"math"
	"slices"
	"testing"

	"ferry/api"
	"ferry/host"
)

// model is a guest's memory as the chapter's sentences say it, page by page and byte by byte; far is what the host has out of reach.
type model struct {
	base  uint64
	far   api.Host
	prots map[uint32]int
	bytes map[uint32]byte
}

func newModel(base uint64, far api.Host) *model {
	return &model{base, far, map[uint32]int{}, map[uint32]byte{}}
}

// guest is the memory that the model says.
func (m *model) guest() api.Guest {
	g := api.Guest{Base: m.base}
	g.Host.Maps = slices.Clone(m.far.Maps)
	for page := range m.hostPages() {
		g.Host.Maps = append(g.Host.Maps, api.Map{Page: page, Prot: 3})
	}
	for n, prot := range m.prots {
		g.Pages = append(g.Pages, api.Page{N: n, Prot: prot})
	}
	words := map[uint64]uint64{}
	for a, b := range m.bytes {
		at := m.base + uint64(a)
		words[at&^7] |= uint64(b) << (8 * (at & 7))
	}
	g.Host.Cells = slices.Clone(m.far.Cells)
	for at, w := range words {
		if w != 0 {
			g.Host.Cells = append(g.Host.Cells, api.Cell{At: at, Word: w})
		}
	}
	sortBy(g.Host.Maps, func(x api.Map) uint64 { return x.Page })
	sortBy(g.Host.Cells, func(x api.Cell) uint64 { return x.At })
	sortBy(g.Pages, func(x api.Page) uint64 { return uint64(x.N) })
	return g
}

// hostPages are the host's pages in which one of the guest's is.
func (m *model) hostPages() map[uint64]bool {
	out := map[uint64]bool{}
	for n := range m.prots {
		out[(m.base+uint64(n)*size)/hostSize] = true
	}
	return out
}

// sortBy sorts a short list.
func sortBy[T any](list []T, place func(T) uint64) {
	for i := range list {
		for j := i; j > 0 && place(list[j]) < place(list[j-1]); j-- {
			list[j], list[j-1] = list[j-1], list[j]
		}
	}
}

func (m *model) mapPages(first, n uint32, prot int) api.Errno {
	then := newModel(m.base, m.far)
	for p, prot := range m.prots {
		then.prots[p] = prot
	}
	for i := range n {
		then.prots[first+i] = prot
	}
	switch {
	case len(then.prots) > most:
		return api.ErrMem
	case len(then.hostPages())+len(m.far.Maps) > 64:
		return api.ErrFull
	}
	m.prots = then.prots
	m.zero(first, n)
	return api.OK
}

func (m *model) unmap(first, n uint32) api.Errno {
	for i := range n {
		delete(m.prots, first+i)
	}
	m.zero(first, n)
	return api.OK
}

func (m *model) zero(first, n uint32) {
	for a := range m.bytes {
		if p := a / size; p >= first && p-first < n {
			delete(m.bytes, a)
		}
	}
}

func (m *model) protect(first, n uint32, prot int) api.Errno {
	for i := range n {
		if _, ok := m.prots[first+i]; !ok {
			return api.ErrMem
		}
	}
	for i := range n {
		m.prots[first+i] = prot
	}
	return api.OK
}

// chance hands out numbers by a simple rule.
type chance uint64

func (c *chance) below(n uint64) uint64 {
	*c = *c*6364136223846793005 + 1442695040888963407
	return uint64(*c>>33) % n
}

// pages are some at either end of the addresses, of which now and then many.
func (c *chance) pages() (first, n uint32) {
	first = uint32(c.below(40))
	if c.below(3) == 0 {
		first = uint32(lastPage - c.below(10))
	}
	n = 1 + uint32(c.below(6))
	if c.below(12) == 0 {
		n = 1 + uint32(c.below(280))
	}
	return first, min(n, allPages-first)
}

// farPages are n pages of the host about the guest's reach, with bytes.
func farPages(base uint64, n int) (h api.Host) {
	if base > 0 {
		h.Maps = mapsFrom(base/hostSize-1, 1, 5)
		h.Cells = []api.Cell{{At: base - 8, Word: lastByte}}
	}
	h.Maps = append(h.Maps, mapsFrom((base+whole)/hostSize, n-len(h.Maps), 2)...)
	h.Cells = append(h.Cells, api.Cell{At: base + whole, Word: 1})
	return h
}

// P4.1 to P4.6: calls one behind the other come to the same as in the model; memories stay fit, and what was given stays as it was.
func TestAgainstModel(t *testing.T) {
	for seed := range 21 {
		c := chance(seed)
		base := bases[seed%len(bases)]
		m := newModel(base, farPages(base, []int{2, 20, 55}[seed%3]))
		g := m.guest()
		for i := range 300 {
			before := cloned(g)
			next, what := oneCall(t, &c, m, g)
			if !equal(g, before) {
				t.Fatalf("seed %d, call %d, %s: what was given changed", seed, i, what)
			}
			if g = next; !equal(g, m.guest()) || !Fit(g) || !Same(g, m.guest()) {
				t.Fatalf("seed %d, call %d, %s: %v; want %v", seed, i, what, g, m.guest())
			}
			for page := range uint32(50) {
				prot, ok := m.prots[page]
				if got := Prot(g, page); ok && got != prot || !ok && got != -1 {
					t.Fatalf("seed %d, call %d, %s: Prot of page %d: %d", seed, i, what, page, got)
				}
			}
		}
	}
}

// oneCall does a call by chance in both, and holds their answers against each other.
func oneCall(t *testing.T, c *chance, m *model, g api.Guest) (api.Guest, string) {
	t.Helper()
	first, n := c.pages()
	prot := int(c.below(8))
	var e, want api.Errno
	what := ""
	switch c.below(8) {
	case 0, 1:
		what, want = "Map", m.mapPages(first, n, prot)
		g, e = Map(g, first, n, prot)
	case 2:
		what, want = "Unmap", m.unmap(first, n)
		g, e = Unmap(g, first, n)
	case 3:
		n = min(n, 2)
		what, want = "Protect", m.protect(first, n, prot)
		g, e = Protect(g, first, n, prot)
	default:
		what = "bytes"
		for range 4 {
			g = oneByte(t, c, m, g)
		}
	}
	if e != want {
		t.Fatalf("%s of page %d, %d: %v; want %v", what, first, n, e, want)
	}
	return g, what
}

// oneByte puts a byte in one of the guest's pages, mostly near to its border, at the place that Place tells.
func oneByte(t *testing.T, c *chance, m *model, g api.Guest) api.Guest {
	t.Helper()
	if len(g.Pages) == 0 {
		return g
	}
	a := g.Pages[c.below(uint64(len(g.Pages)))].N * size
	switch c.below(3) {
	case 0:
		a += uint32(c.below(10))
	case 1:
		a += size - 1 - uint32(c.below(10))
	default:
		a += uint32(c.below(size))
	}
	b := byte(c.below(256))
	m.bytes[a] = b
	h, f := host.Store(g.Host, Place(g, a), 1, uint64(b))
	if f != (api.Fault{}) {
		t.Fatalf("Store at %d: %v", a, f)
	}
	g.Host = h
	return g
}

// 0.5: what a call tells shares no memory with what it was given, nor with what another call tells, beside errors either.
func TestNothingShared(t *testing.T) {
	g := filled(t, mapped(t, whole, 3, 4, 5, 6, 9))
	calls := map[string]struct {
		want api.Errno
		call func(api.Guest) (api.Guest, api.Errno)
	}{
		"Map":                    {api.OK, func(g api.Guest) (api.Guest, api.Errno) { return Map(g, 12, 3, 3) }},
		"Map, no host's page":    {api.OK, func(g api.Guest) (api.Guest, api.Errno) { return Map(g, 7, 1, 3) }},
		"Map anew":               {api.OK, func(g api.Guest) (api.Guest, api.Errno) { return Map(g, 5, 1, 3) }},
		"Map, ErrInval":          {api.ErrInval, func(g api.Guest) (api.Guest, api.Errno) { return Map(g, 5, 0, 3) }},
		"Map, ErrMem":            {api.ErrMem, func(g api.Guest) (api.Guest, api.Errno) { return Map(g, 5, 300, 3) }},
		"Map, ErrFull":           {api.ErrFull, func(g api.Guest) (api.Guest, api.Errno) { return Map(g, 19, 249, 3) }},
		"Unmap":                  {api.OK, func(g api.Guest) (api.Guest, api.Errno) { return Unmap(g, 5, 5) }},
		"Unmap of one":           {api.OK, func(g api.Guest) (api.Guest, api.Errno) { return Unmap(g, 4, 1) }},
		"Unmap of nothing":       {api.OK, func(g api.Guest) (api.Guest, api.Errno) { return Unmap(g, 20, 9) }},
		"Unmap, ErrInval":        {api.ErrInval, func(g api.Guest) (api.Guest, api.Errno) { return Unmap(g, 5, 0) }},
		"Protect":                {api.OK, func(g api.Guest) (api.Guest, api.Errno) { return Protect(g, 4, 3, 1) }},
		"Protect as it is":       {api.OK, func(g api.Guest) (api.Guest, api.Errno) { return Protect(g, 4, 1, 3) }},
		"Protect, ErrInval":      {api.ErrInval, func(g api.Guest) (api.Guest, api.Errno) { return Protect(g, 4, 1, 8) }},
		"Protect, ErrMem":        {api.ErrMem, func(g api.Guest) (api.Guest, api.Errno) { return Protect(g, 4, 4, 1) }},
		"Unmap of all":           {api.OK, func(g api.Guest) (api.Guest, api.Errno) { return Unmap(g, 0, allPages) }},
		"Map at the last places": {api.OK, func(g api.Guest) (api.Guest, api.Errno) { return Map(g, lastPage, 1, 3) }},
	}
	for what, row := range calls {
		given := api.Guest{
			Host:  api.Host{Maps: append(make([]api.Map, 0, 100), g.Host.Maps...), Cells: append(make([]api.Cell, 0, 100), g.Host.Cells...)},
			Base:  g.Base,
			Pages: append(make([]api.Page, 0, 100), g.Pages...),
		}
		got, e := row.call(given)
		other, _ := row.call(given)
		if e != row.want || e != api.OK && !equal(got, g) {
			t.Errorf("%s: %v, %v", what, got, e)
		}
		if !equal(given, g) {
			t.Errorf("%s: what was given changed", what)
		}
		keep := cloned(got)
		scribble(given)
		scribble(other)
		if !equal(got, keep) {
			t.Errorf("%s: what it told changed", what)
		}
	}
}

// scribble changes all that a memory's lists have room for.
func scribble(g api.Guest) {
	maps, cells, pages := g.Host.Maps[:cap(g.Host.Maps)], g.Host.Cells[:cap(g.Host.Cells)], g.Pages[:cap(g.Pages)]
	for i := range maps {
		maps[i] = api.Map{Page: 1234, Prot: 56}
	}
	for i := range cells {
		cells[i] = api.Cell{At: 1234, Word: 56}
	}
	for i := range pages {
		pages[i] = api.Page{N: 1234, Prot: 56}
	}
}

// 0.1: no call panics, whatever memory it is given.
func TestAnyMemory(t *testing.T) {
	odd := []uint64{0, 1, 3, 4, 7, 8, 255, 256, 4096, 16384, 1<<18 - 1, 1 << 18, lastPage, allPages, allPages + 1, 1<<32 - 1, 1 << 32, 1<<50 - 1, 1 << 50, topBase, topBase + 1, 1 << 63, math.MaxUint64 - 16383, math.MaxUint64 - 3, math.MaxUint64}
	for seed := range 200 {
		c := chance(seed)
		pick := func() uint64 { return odd[c.below(uint64(len(odd)))] }
		g := api.Guest{Base: pick()}
		for range c.below(80) {
			g.Host.Maps = append(g.Host.Maps, api.Map{Page: pick(), Prot: int(c.below(20)) - 6})
		}
		for range c.below(12) {
			g.Host.Cells = append(g.Host.Cells, api.Cell{At: pick(), Word: c.below(3)})
		}
		for range c.below(300) {
			g.Pages = append(g.Pages, api.Page{N: uint32(pick()), Prot: int(c.below(20)) - 6})
		}
		Fit(g)
		Same(g, g)
		for _, first := range odd {
			Prot(g, uint32(first))
			Place(g, uint32(first))
			for _, n := range odd {
				Map(g, uint32(first), uint32(n), 3)
				Unmap(g, uint32(first), uint32(n))
				Protect(g, uint32(first), uint32(n), 3)
			}
		}
	}
}
