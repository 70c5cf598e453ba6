package gmap

import (
	"cmp"
	"math"
	"slices"
	"testing"

	"ferry/api"
	"ferry/guest"
	"ferry/host"
)

// model is a space as the chapter's sentences say it, page by page, with addresses of 64 bits; far is what the host has out of reach.
type model struct {
	base       uint64
	far        api.Host
	prots      map[uint64]int
	bytes      map[uint64]byte
	start, end uint64
}

// up is swap.Up to a page, which here may be 2^32.
func up(v uint64) uint64 { return (v + size - 1) / size * size }

// space is what the model says.
func (m *model) space() api.Space {
	g := api.Guest{Base: m.base, Host: api.Host{Maps: slices.Clone(m.far.Maps), Cells: slices.Clone(m.far.Cells)}}
	for page := range hostPages(m.prots) {
		g.Host.Maps = append(g.Host.Maps, api.Map{Page: m.base/hostSize + page, Prot: 3})
	}
	for page, prot := range m.prots {
		g.Pages = append(g.Pages, api.Page{N: uint32(page), Prot: prot})
	}
	words := map[uint64]uint64{}
	for a, b := range m.bytes {
		at := m.base + a
		words[at&^7] |= uint64(b) << (8 * (at & 7))
	}
	for at, w := range words {
		if w != 0 {
			g.Host.Cells = append(g.Host.Cells, api.Cell{At: at, Word: w})
		}
	}
	slices.SortFunc(g.Host.Maps, func(a, b api.Map) int { return cmp.Compare(a.Page, b.Page) })
	slices.SortFunc(g.Host.Cells, func(a, b api.Cell) int { return cmp.Compare(a.At, b.At) })
	slices.SortFunc(g.Pages, func(a, b api.Page) int { return cmp.Compare(a.N, b.N) })
	return api.Space{Guest: g, Start: uint32(m.start), End: uint32(m.end)}
}

// hostPages are the host's pages from Base on in which one of the guest's is.
func hostPages(prots map[uint64]int) map[uint64]bool {
	out := map[uint64]bool{}
	for page := range prots {
		out[page*size/hostSize] = true
	}
	return out
}

// isMapped tells whether one of the pages from an address up to another is mapped.
func (m *model) isMapped(from, to uint64) bool {
	for a := from; a < to; a += size {
		if _, ok := m.prots[a/size]; ok {
			return true
		}
	}
	return false
}

// mapAt is guest.Map.
func (m *model) mapAt(from, to uint64, prot int) api.Errno {
	then := map[uint64]int{}
	for page, prot := range m.prots {
		then[page] = prot
	}
	for a := from; a < to; a += size {
		then[a/size] = prot
	}
	switch {
	case len(then) > most:
		return api.ErrMem
	case len(hostPages(then))+len(m.far.Maps) > 64:
		return api.ErrFull
	}
	m.unmap(from, to)
	m.prots = then
	return api.OK
}

// unmap is guest.Unmap.
func (m *model) unmap(from, to uint64) {
	for page := range m.prots {
		if page*size >= from && page*size < to {
			delete(m.prots, page)
		}
	}
	for a := range m.bytes {
		if a >= from && a < to {
			delete(m.bytes, a)
		}
	}
}

// room is free room, asked for page by page.
func (m *model) room(n uint64) (uint64, bool) {
	for at := uint64(top - size); at >= size; at -= size {
		if at+n <= top && !m.isMapped(at, at+n) && (at+n <= m.start || at >= up(m.end) || m.start == up(m.end)) {
			return at, true
		}
	}
	return 0, false
}

func (m *model) mmap(a, n uint64, prot int, fixed bool) (uint64, api.Errno) {
	if n == 0 || prot < 0 || prot > 7 || fixed && a%size != 0 {
		return 0, api.ErrInval
	}
	n = up(n)
	if n > most*size || fixed && a+n > whole {
		return 0, api.ErrMem
	}
	if !fixed && (a%size != 0 || a == 0 || a+n > top || m.isMapped(a, a+n)) {
		var ok bool
		if a, ok = m.room(n); !ok {
			return 0, api.ErrMem
		}
	}
	if e := m.mapAt(a, a+n, prot); e != api.OK {
		return 0, e
	}
	return a, api.OK
}

func (m *model) munmap(a, n uint64) api.Errno {
	if a%size != 0 || n == 0 || a+up(n) > whole {
		return api.ErrInval
	}
	m.unmap(a, a+up(n))
	return api.OK
}

func (m *model) mprotect(a, n uint64, prot int) api.Errno {
	switch {
	case a%size != 0 || prot < 0 || prot > 7:
		return api.ErrInval
	case n == 0:
		return api.OK
	case a+up(n) > whole:
		return api.ErrMem
	}
	for at := a; at < a+up(n); at += size {
		if !m.isMapped(at, at+size) {
			return api.ErrMem
		}
	}
	for at := a; at < a+up(n); at += size {
		m.prots[at/size] = prot
	}
	return api.OK
}

func (m *model) brk(a uint64) uint64 {
	old, now := up(m.end), up(a)
	if a < m.start {
		return m.end
	}
	if now > old && (now > top || now-old > most*size || m.isMapped(old, now) || m.mapAt(old, now, 3) != api.OK) {
		return m.end
	}
	m.unmap(now, max(now, old))
	m.end = a
	return a
}

// chance hands out numbers by a simple rule.
type chance uint64

func (c *chance) below(n uint64) uint64 {
	*c = *c*6364136223846793005 + 1442695040888963407
	return uint64(*c>>33) % n
}

// address is mostly a page's, near to 0, to Top, or to 2^32.
func (c *chance) address() uint32 {
	a := uint32(c.below(40) * size)
	switch c.below(8) {
	case 0, 1, 2:
		a = uint32(top + c.below(8)*size - c.below(40)*size)
	case 3:
		a = uint32(whole - size - c.below(12)*size)
	}
	switch c.below(10) {
	case 0:
		a += uint32(c.below(size))
	case 1:
		a += 1
	case 2:
		a -= 1
	}
	return a
}

// length is mostly that of some pages.
func (c *chance) length() uint32 {
	n := uint32(c.below(6*size) + 1)
	switch c.below(16) {
	case 0:
		n = 0
	case 1:
		n = uint32(c.below(270 * size))
	case 2:
		n = uint32(whole - c.below(9*size) - 1)
	case 3, 4, 5, 6:
		n = uint32(c.below(8) * size)
	}
	return n
}

// newModel has a heap somewhere, and pages of the host about the guest's reach.
func newModel(seed int) *model {
	base := []uint64{0, hostSize, whole, topBase}[seed%4]
	m := &model{base: base, prots: map[uint64]int{}, bytes: map[uint64]byte{}}
	m.start = []uint64{8 * size, 0, top - 20*size, 3 * size, top, whole - 8*size}[seed%6]
	m.end = m.start + []uint64{0, 1, size, 5*size + 7, 8*size - 1}[seed%5]
	if base > 0 {
		m.far.Maps = append(m.far.Maps, api.Map{Page: base/hostSize - 1, Prot: 5})
		m.far.Cells = append(m.far.Cells, api.Cell{At: base - 8, Word: math.MaxUint64})
	}
	for i := range []uint64{1, 20, 50}[seed%3] {
		m.far.Maps = append(m.far.Maps, api.Map{Page: (base+whole)/hostSize + i, Prot: 2})
	}
	m.far.Cells = append(m.far.Cells, api.Cell{At: base + whole, Word: 1})
	return m
}

// P6.1 to P6.5: calls one behind the other come to the same as in the model; other pages and their bytes, and what is out of reach, stay; spaces stay fit, and what was given stays as it was.
func TestAgainstModel(t *testing.T) {
	for seed := range 60 {
		c := chance(seed)
		m := newModel(seed)
		s := m.space()
		if !Fit(s) {
			t.Fatalf("seed %d: the model's space is not fit", seed)
		}
		for i := range 200 {
			before := cloned(s)
			next, what := oneCall(t, &c, m, s)
			if !equal(s, before) {
				t.Fatalf("seed %d, call %d, %s: what was given changed", seed, i, what)
			}
			if s = next; !equal(s, m.space()) || !Fit(s) {
				t.Fatalf("seed %d, call %d, %s: %v; want %v", seed, i, what, s, m.space())
			}
			s = oneByte(t, &c, m, s)
		}
	}
}

// oneCall does a call by chance in both, and holds their answers against each other.
func oneCall(t *testing.T, c *chance, m *model, s api.Space) (api.Space, string) {
	t.Helper()
	a, n, prot := c.address(), c.length(), int(c.below(8))
	if c.below(20) == 0 {
		prot = []int{-1, 8}[c.below(2)]
	}
	var e, errno api.Errno
	var at uint32
	var want uint64
	what := ""
	switch c.below(8) {
	case 0, 1, 2:
		fixed := c.below(3) == 0
		what, s = "Mmap", freed(t, c, m, s, n)
		ahead := s.Guest
		want, errno = m.mmap(uint64(a), uint64(n), prot, fixed)
		s, at, e = Mmap(s, a, n, prot, fixed)
		for page := at / size; e == api.OK && !fixed && uint64(page)*size < uint64(at)+uint64(n); page++ {
			if guest.Prot(ahead, page) >= 0 {
				t.Fatalf("Mmap at %#x, %d: %#x: page %#x was mapped", a, n, at, page)
			}
		}
	case 3, 4:
		what, errno = "Munmap", m.munmap(uint64(a), uint64(n))
		s, e = Munmap(s, a, n)
	case 5:
		n = min(n, 3*size)
		what, errno = "Mprotect", m.mprotect(uint64(a), uint64(n), prot)
		s, e = Mprotect(s, a, n, prot)
	default:
		if c.below(3) > 0 {
			a = uint32(m.start + c.below(16*size))
		}
		what, want = "Brk", m.brk(uint64(a))
		s, at = Brk(s, a)
	}
	if e != errno || uint64(at) != want {
		t.Fatalf("%s at %#x, %d, %d: %#x, %v; want %#x, %v", what, a, n, prot, at, e, want, errno)
	}
	return s, what
}

// freed is a space with fewer pages now and then, in both, so that not all calls are refused at last.
func freed(t *testing.T, c *chance, m *model, s api.Space, n uint32) api.Space {
	t.Helper()
	if len(s.Guest.Pages) < 100 && c.below(9) > 0 || n == 0 {
		return s
	}
	page := s.Guest.Pages[len(s.Guest.Pages)/2:]
	if len(page) == 0 {
		return s
	}
	a := uint64(page[0].N) * size
	m.unmap(a, a+60*size)
	s, e := Munmap(s, uint32(a), uint32(min(60*size, whole-1-a)))
	if e != api.OK {
		t.Fatalf("Munmap at %#x: %v", a, e)
	}
	return s
}

// oneByte puts a byte in one of the guest's pages, in both.
func oneByte(t *testing.T, c *chance, m *model, s api.Space) api.Space {
	t.Helper()
	if len(s.Guest.Pages) == 0 {
		return s
	}
	a := s.Guest.Pages[c.below(uint64(len(s.Guest.Pages)))].N * size
	a += []uint32{0, size - 1, uint32(c.below(size))}[c.below(3)]
	b := byte(1 + c.below(255))
	m.bytes[uint64(a)] = b
	h, f := host.Store(s.Guest.Host, s.Guest.Base+uint64(a), 1, uint64(b))
	if f != (api.Fault{}) {
		t.Fatalf("host.Store at %#x: %v", a, f)
	}
	s.Guest.Host = h
	return s
}

// 0.5: what a call tells shares no memory with what it was given, nor with what another call tells, beside errors either.
func TestNothingShared(t *testing.T) {
	s := space(t, 8*size, 9*size+5, 3, 4, 8, 9, 20)
	mmap := func(a, n uint32, prot int, fixed bool, want api.Errno) func(api.Space) (api.Space, bool) {
		return func(s api.Space) (api.Space, bool) {
			s, _, e := Mmap(s, a, n, prot, fixed)
			return s, e == want
		}
	}
	munmap := func(a, n uint32, want api.Errno) func(api.Space) (api.Space, bool) {
		return func(s api.Space) (api.Space, bool) {
			s, e := Munmap(s, a, n)
			return s, e == want
		}
	}
	mprotect := func(a, n uint32, prot int, want api.Errno) func(api.Space) (api.Space, bool) {
		return func(s api.Space) (api.Space, bool) {
			s, e := Mprotect(s, a, n, prot)
			return s, e == want
		}
	}
	brk := func(a, want uint32) func(api.Space) (api.Space, bool) {
		return func(s api.Space) (api.Space, bool) {
			s, end := Brk(s, a)
			return s, end == want && s.End == want
		}
	}
	for what, call := range map[string]func(api.Space) (api.Space, bool){
		"Mmap":                      mmap(0, size, 3, false, api.OK),
		"Mmap as asked":             mmap(5*size, size, 3, false, api.OK),
		"Mmap, fixed":               mmap(3*size, size, 3, true, api.OK),
		"Mmap, ErrInval":            mmap(0, 0, 3, false, api.ErrInval),
		"Mmap, ErrMem":              mmap(0, last32, 3, false, api.ErrMem),
		"Mmap, guest.Map's ErrMem":  mmap(0, most*size, 3, false, api.ErrMem),
		"Mmap, guest.Map's ErrFull": mmap(23*size, 250*size, 3, false, api.ErrFull),
		"Munmap":                    munmap(3*size, size, api.OK),
		"Munmap of nothing":         munmap(5*size, size, api.OK),
		"Munmap, ErrInval":          munmap(3*size, 0, api.ErrInval),
		"Mprotect":                  mprotect(3*size, size, 1, api.OK),
		"Mprotect of nothing":       mprotect(3*size, 0, 1, api.OK),
		"Mprotect, ErrInval":        mprotect(3*size, size, 8, api.ErrInval),
		"Mprotect, above 2^32":      mprotect(3*size, last32, 1, api.ErrMem),
		"Mprotect, ErrMem":          mprotect(3*size, 3*size, 1, api.ErrMem),
		"Brk up":                    brk(12*size, 12*size),
		"Brk down":                  brk(8*size, 8*size),
		"Brk in the same page":      brk(9*size+6, 9*size+6),
		"Brk to End":                brk(9*size+5, 9*size+5),
		"Brk below Start":           brk(7*size, 9*size+5),
		"Brk over a page":           brk(21*size, 9*size+5),
		"Brk above Top":             brk(last32, 9*size+5),
	} {
		given := cloned(s)
		given.Guest.Pages = append(make([]api.Page, 0, 100), s.Guest.Pages...)
		given.Guest.Host.Maps = append(make([]api.Map, 0, 100), s.Guest.Host.Maps...)
		given.Guest.Host.Cells = append(make([]api.Cell, 0, 100), s.Guest.Host.Cells...)
		got, ok := call(given)
		other, _ := call(given)
		if !ok {
			t.Errorf("%s: another answer: %v", what, got)
		}
		if !equal(given, s) {
			t.Errorf("%s: what was given changed", what)
		}
		keep := cloned(got)
		scribble(given)
		scribble(other)
		if !equal(got, keep) {
			t.Errorf("%s: what it told changed", what)
		}
	}
}

// scribble changes all that a space's lists have room for.
func scribble(s api.Space) {
	g := s.Guest
	clear(g.Host.Maps[:cap(g.Host.Maps)])
	clear(g.Host.Cells[:cap(g.Host.Cells)])
	clear(g.Pages[:cap(g.Pages)])
}

// 0.1: no call panics, whatever space it is given.
func TestAnySpace(t *testing.T) {
	odd := []uint64{0, 1, 7, 8, 255, 256, 4095, 4096, 4097, 16384, 1<<18 - 1, 1 << 18, topNext - 1, topNext, top - 4096, top - 1, top, top + 1, top + 4096, lastPage, allPages, allPages + 1, 1<<32 - 4097, 1<<32 - 4096, 1<<32 - 4095, 1<<32 - 2, 1<<32 - 1, 1 << 32, 1<<50 - 1, 1 << 50, topBase, topBase + 1, math.MaxUint64 - 16383, math.MaxUint64}
	for seed := range 40 {
		c := chance(seed)
		pick := func() uint64 { return odd[c.below(uint64(len(odd)))] }
		s := api.Space{Guest: api.Guest{Base: pick()}, Start: uint32(pick()), End: uint32(pick())}
		for range c.below(80) {
			s.Guest.Host.Maps = append(s.Guest.Host.Maps, api.Map{Page: pick(), Prot: int(c.below(20)) - 6})
		}
		for range c.below(12) {
			s.Guest.Host.Cells = append(s.Guest.Host.Cells, api.Cell{At: pick(), Word: c.below(3)})
		}
		for range c.below(300) {
			s.Guest.Pages = append(s.Guest.Pages, api.Page{N: uint32(pick()), Prot: int(c.below(20)) - 6})
		}
		Fit(s)
		for _, at := range odd {
			a := uint32(at)
			Brk(s, a)
			for _, n := range odd {
				Mmap(s, a, uint32(n), 3, false)
				Mmap(s, a, uint32(n), 3, true)
				Munmap(s, a, uint32(n))
				Mprotect(s, a, uint32(n), 3)
			}
		}
	}
}
