package host

import (
	"math"
	"testing"

	"ferry/api"
)

// model is a memory as the chapter's sentences say it, page by page and byte by byte.
type model struct {
	prots map[uint64]int
	bytes map[uint64]byte
}

func newModel() *model { return &model{map[uint64]int{}, map[uint64]byte{}} }

func (m *model) host() api.Host {
	var h api.Host
	for page := range uint64(spread) { // the pages of low addresses, and behind them those of the last ones
		for _, p := range []uint64{page, places - spread + page} {
			if prot, ok := m.prots[p]; ok {
				h.Maps = append(h.Maps, api.Map{Page: p, Prot: prot})
			}
		}
	}
	sortBy(h.Maps, func(x api.Map) uint64 { return x.Page })
	words := map[uint64]uint64{}
	for a, b := range m.bytes {
		words[a&^7] |= uint64(b) << (8 * (a & 7))
	}
	for a, w := range words {
		if w != 0 {
			h.Cells = append(h.Cells, api.Cell{At: a, Word: w})
		}
	}
	sortBy(h.Cells, func(x api.Cell) uint64 { return x.At })
	return h
}

// sortBy sorts a short list.
func sortBy[T any](list []T, place func(T) uint64) {
	for i := range list {
		for j := i; j > 0 && place(list[j]) < place(list[j-1]); j-- {
			list[j], list[j-1] = list[j-1], list[j]
		}
	}
}

func (m *model) mapPages(page, n uint64, prot int) api.Errno {
	there := uint64(0)
	for p := range m.prots {
		if p >= page && p-page < n {
			there++
		}
	}
	switch {
	case there > 0:
		return api.ErrThere
	case uint64(len(m.prots))+n > most:
		return api.ErrFull
	}
	for i := range n {
		m.prots[page+i] = prot
	}
	return api.OK
}

func (m *model) unmap(page, n uint64) api.Errno {
	for i := range n {
		delete(m.prots, page+i)
	}
	for a := range m.bytes {
		if _, ok := m.prots[a/pageSize]; !ok {
			delete(m.bytes, a)
		}
	}
	return api.OK
}

func (m *model) protect(page, n uint64, prot int) api.Errno {
	for i := range n {
		if _, ok := m.prots[page+i]; !ok {
			return api.ErrNone
		}
	}
	for i := range n {
		m.prots[page+i] = prot
	}
	return api.OK
}

func (m *model) fault(at, n uint64, asked int) api.Fault {
	for i := range n {
		prot, ok := m.prots[(at+i)/pageSize]
		if !ok || at+i < at {
			return api.Fault{Kind: api.FtThere, At: at + i}
		}
		if prot&asked == 0 {
			return api.Fault{Kind: api.FtRight, At: at + i}
		}
	}
	return api.Fault{}
}

func (m *model) load(at, n uint64) (v uint64, f api.Fault) {
	if f = m.fault(at, n, api.PrRead); f.Kind != api.FtNone {
		return 0, f
	}
	for i := range n {
		v |= uint64(m.bytes[at+i]) << (8 * i)
	}
	return v, f
}

func (m *model) store(at, n, v uint64) api.Fault {
	f := m.fault(at, n, api.PrWrite)
	if f.Kind == api.FtNone {
		for i := range n {
			m.bytes[at+i] = byte(v >> (8 * i))
		}
	}
	return f
}

func (m *model) clear(at, n uint64) {
	for a := range m.bytes {
		if a >= at && a-at < n {
			delete(m.bytes, a)
		}
	}
}

const spread = 40 // pages at either end of the addresses that are asked for

// chance hands out numbers by a simple rule.
type chance uint64

func (c *chance) below(n uint64) uint64 {
	*c = *c*6364136223846793005 + 1442695040888963407
	return uint64(*c>>33) % n
}

// page is one at either end of the addresses.
func (c *chance) page() uint64 {
	if c.below(3) == 0 {
		return places - 1 - c.below(4)
	}
	return c.below(spread - 12)
}

// at is an address, mostly near to a page's border.
func (c *chance) at() uint64 {
	base := c.page() * pageSize
	switch c.below(3) {
	case 0:
		return base + c.below(40)
	case 1:
		return base + pageSize - 1 - c.below(12)
	}
	return base + 8000 + c.below(24)
}

// P3.2 to P3.5: calls one behind the other come to the same as in the model; memories stay fit, and what was given stays as it was.
func TestAgainstModel(t *testing.T) {
	for seed := range 12 {
		c := chance(seed)
		m, h := newModel(), api.Host{}
		for i := range 1500 {
			before := cloned(h)
			next, what := oneCall(t, &c, m, h)
			if !equal(h, before) {
				t.Fatalf("seed %d, call %d, %s: what was given changed", seed, i, what)
			}
			if h = next; !equal(h, m.host()) || !Fit(h) || !Same(h, m.host()) {
				t.Fatalf("seed %d, call %d, %s: %v; want %v", seed, i, what, h, m.host())
			}
		}
	}
}

// oneCall does a call by chance in both, and holds their answers against each other.
func oneCall(t *testing.T, c *chance, m *model, h api.Host) (api.Host, string) {
	t.Helper()
	page, at, bytes, prot := c.page(), c.at(), 1+c.below(8), int(c.below(8)|3*c.below(2))
	n := min(1+c.below(5), places-page)
	v := c.below(1<<31)<<33 | c.below(1<<31)<<8 | c.below(256)
	if c.below(3) == 0 {
		v &= 0xff00ff0000ff00 // bytes that are 0, so that cells go
	}
	var e, want api.Errno
	var f, wantFault api.Fault
	what := ""
	switch c.below(10) {
	case 0, 1:
		what, want = "Map", m.mapPages(page, n, prot)
		h, e = Map(h, page, n, prot)
	case 2:
		what, want = "Unmap", m.unmap(page, n)
		h, e = Unmap(h, page, n)
	case 3:
		what, want = "Protect", m.protect(page, min(n, 2), prot)
		h, e = Protect(h, page, min(n, 2), prot)
	case 4:
		what = "Clear"
		size := c.below(3 * pageSize)
		m.clear(at, size)
		h = Clear(h, at, size)
	case 5, 6:
		what = "Load"
		got, gotFault := Load(h, at, int(bytes))
		number, fault := m.load(at, bytes)
		if got != number || gotFault != fault {
			t.Fatalf("Load at %d, %d bytes: %d, %v; want %d, %v", at, bytes, got, gotFault, number, fault)
		}
	default:
		what, wantFault = "Store", m.store(at, bytes, v)
		h, f = Store(h, at, int(bytes), v)
	}
	if e != want || f != wantFault {
		t.Fatalf("%s: %v, %v; want %v, %v", what, e, f, want, wantFault)
	}
	return h, what
}

// 0.5: what a call tells shares no memory with what it was given, nor with what another call tells, in errors and faults either.
func TestNothingShared(t *testing.T) {
	h := stored(t, mapped(t, 3, 4, 5, 6), 4*pageSize, 8, 77)
	h = stored(t, h, 5*pageSize, 8, 78)
	calls := map[string]func(api.Host) api.Host{
		"Map":                      func(h api.Host) api.Host { g, _ := Map(h, 7, 1, 3); return g },
		"Map, ErrInval":            func(h api.Host) api.Host { g, _ := Map(h, 7, 0, 3); return g },
		"Map, ErrThere":            func(h api.Host) api.Host { g, _ := Map(h, 4, 1, 3); return g },
		"Map, ErrFull":             func(h api.Host) api.Host { g, _ := Map(h, 100, 100, 3); return g },
		"Unmap":                    func(h api.Host) api.Host { g, _ := Unmap(h, 6, 1); return g },
		"Unmap of nothing":         func(h api.Host) api.Host { g, _ := Unmap(h, 9, 1); return g },
		"Unmap, ErrInval":          func(h api.Host) api.Host { g, _ := Unmap(h, 9, 0); return g },
		"Protect":                  func(h api.Host) api.Host { g, _ := Protect(h, 4, 1, 1); return g },
		"Protect, ErrInval":        func(h api.Host) api.Host { g, _ := Protect(h, 4, 1, 9); return g },
		"Protect, ErrNone":         func(h api.Host) api.Host { g, _ := Protect(h, 9, 1, 1); return g },
		"Store":                    func(h api.Host) api.Host { g, _ := Store(h, 4*pageSize, 4, 5); return g },
		"Store of what is there":   func(h api.Host) api.Host { g, _ := Store(h, 4*pageSize, 8, 77); return g },
		"Store of 0 in nothing":    func(h api.Host) api.Host { g, _ := Store(h, 6*pageSize, 8, 0); return g },
		"Store, a fault":           func(h api.Host) api.Host { g, _ := Store(h, 0, 8, 0); return g },
		"Store, no bytes":          func(h api.Host) api.Host { g, _ := Store(h, 4*pageSize, 0, 0); return g },
		"Clear":                    func(h api.Host) api.Host { return Clear(h, 5*pageSize, 8) },
		"Clear of nothing":         func(h api.Host) api.Host { return Clear(h, 9*pageSize, 8) },
		"Clear of no bytes at all": func(h api.Host) api.Host { return Clear(h, 4*pageSize, 0) },
	}
	for what, call := range calls {
		given := api.Host{Maps: append(make([]api.Map, 0, 100), h.Maps...), Cells: append(make([]api.Cell, 0, 100), h.Cells...)}
		g, other := call(given), call(given)
		if !equal(given, h) {
			t.Errorf("%s: what was given changed", what)
		}
		keep := cloned(g)
		scribble(given)
		scribble(other)
		if !equal(g, keep) {
			t.Errorf("%s: what it told changed", what)
		}
	}
}

// scribble changes all that a memory's lists have room for.
func scribble(h api.Host) {
	maps, cells := h.Maps[:cap(h.Maps)], h.Cells[:cap(h.Cells)]
	for i := range maps {
		maps[i] = api.Map{Page: 1234, Prot: 56}
	}
	for i := range cells {
		cells[i] = api.Cell{At: 1234, Word: 56}
	}
}

// 0.1: no call panics, whatever memory it is given.
func TestUnfit(t *testing.T) {
	odd := []uint64{0, 1, 3, 7, 8, 9, 16383, 16384, 16390, 32768, places - 1, places, places + 1, 1 << 63, math.MaxUint64 - 8, math.MaxUint64 - 7, math.MaxUint64 - 3, math.MaxUint64}
	for seed := range 300 {
		c := chance(seed)
		var h api.Host
		for range c.below(80) {
			h.Maps = append(h.Maps, api.Map{Page: odd[c.below(uint64(len(odd)))] / (1 + c.below(2)*(pageSize-1)), Prot: int(c.below(20)) - 6})
		}
		for range c.below(12) {
			h.Cells = append(h.Cells, api.Cell{At: odd[c.below(uint64(len(odd)))], Word: c.below(3)})
		}
		Fit(h)
		Same(h, h)
		for _, at := range odd {
			for _, n := range odd {
				Map(h, at, n, 3)
				Unmap(h, at, n)
				Protect(h, at, n, 3)
				Clear(h, at, n)
				Load(h, at, int(n))
				Store(h, at, int(n), math.MaxUint64)
			}
		}
	}
}
