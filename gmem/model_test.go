package gmem

import (
	"math"
	"slices"
	"testing"

	"ferry/api"
	"ferry/guest"
)

// model is a guest's memory as the chapter's sentences say it, byte by byte; far is what the host has out of reach.
type model struct {
	base  uint64
	far   api.Host
	prots map[uint32]int
	bytes map[uint32]*[size]byte // of each page that is mapped
}

// newModel has pages of all kinds beside each other, in one of the host's and in two, 18 in a row, and the last ones; and bytes by chance.
func newModel(base uint64, c *chance) *model {
	m := &model{base: base, prots: map[uint32]int{}, bytes: map[uint32]*[size]byte{}}
	for page, prot := range []int{7, 3, 1, 2, 4, 0, 5, 7, 7, -1, 3, 6, -1, -1, 7, 7, 7, 2} {
		if prot >= 0 {
			m.prots[uint32(page)] = prot
		}
	}
	for i := range uint32(18) {
		m.prots[20+i] = 3
	}
	m.prots[lastPage-1], m.prots[lastPage] = 3, 7
	if base > 0 {
		m.far.Maps = append(m.far.Maps, api.Map{Page: base/hostSize - 1, Prot: 5})
		m.far.Cells = append(m.far.Cells, api.Cell{At: base - 8, Word: math.MaxUint64})
	}
	m.far.Maps = append(m.far.Maps, api.Map{Page: (base + whole) / hostSize, Prot: 2})
	m.far.Cells = append(m.far.Cells, api.Cell{At: base + whole, Word: 1})
	for page := range m.prots {
		m.bytes[page] = &[size]byte{}
	}
	for page := range uint32(4) {
		for i := range m.bytes[page] {
			m.bytes[page][i] = byte(c.below(256))
		}
	}
	return m
}

// guest is the memory that the model says.
func (m *model) guest() api.Guest {
	g := api.Guest{Base: m.base, Host: api.Host{Maps: slices.Clone(m.far.Maps), Cells: slices.Clone(m.far.Cells)}}
	there := map[uint64]bool{}
	for page, prot := range m.prots {
		g.Pages = append(g.Pages, api.Page{N: page, Prot: prot})
		at := m.base + uint64(page)*size
		if !there[at/hostSize] {
			there[at/hostSize] = true
			g.Host.Maps = append(g.Host.Maps, api.Map{Page: at / hostSize, Prot: 3})
		}
		for i := 0; i < size; i += 8 {
			var word uint64
			for k := range 8 {
				word |= uint64(m.bytes[page][i+k]) << (8 * k)
			}
			if word != 0 {
				g.Host.Cells = append(g.Host.Cells, api.Cell{At: at + uint64(i), Word: word})
			}
		}
	}
	slices.SortFunc(g.Pages, func(a, b api.Page) int { return compare(uint64(a.N), uint64(b.N)) })
	slices.SortFunc(g.Host.Maps, func(a, b api.Map) int { return compare(a.Page, b.Page) })
	slices.SortFunc(g.Host.Cells, func(a, b api.Cell) int { return compare(a.At, b.At) })
	return g
}

func compare(a, b uint64) int {
	switch {
	case a < b:
		return -1
	case a > b:
		return 1
	}
	return 0
}

// faultAt is the fault of one byte.
func (m *model) faultAt(at uint64, asked int) api.Fault {
	if at >= whole {
		return missing(whole)
	}
	prot, ok := m.prots[uint32(at/size)]
	switch {
	case !ok:
		return missing(at)
	case prot|asked != prot:
		return refused(at)
	}
	return none
}

// fault is the first one of n bytes.
func (m *model) fault(a uint32, n uint64, asked int) api.Fault {
	if n > most {
		return tooMany
	}
	for i := range n {
		if f := m.faultAt(uint64(a)+i, asked); f != none {
			return f
		}
	}
	return none
}

func (m *model) byteAt(at uint64) *byte { return &m.bytes[uint32(at/size)][at%size] }

// told is n bytes, if what is asked for is allowed.
func (m *model) told(a uint32, n uint64, asked int) (string, api.Fault) {
	if f := m.fault(a, n, asked); f != none {
		return "", f
	}
	var out []byte
	for i := range n {
		out = append(out, *m.byteAt(uint64(a) + i))
	}
	return string(out), none
}

// put puts bytes, if what is asked for is allowed.
func (m *model) put(a uint32, s string, asked int) api.Fault {
	f := m.fault(a, uint64(len(s)), asked)
	for i := 0; f == none && i < len(s); i++ {
		*m.byteAt(uint64(a) + uint64(i)) = s[i]
	}
	return f
}

func (m *model) text(a uint32, n int) (string, api.Fault, api.Errno) {
	var out []byte
	for i := 0; i == 0 || i <= min(n, 255); i++ {
		at := uint64(a) + uint64(i)
		if f := m.faultAt(at, api.PrRead); f != none {
			return "", f, api.OK
		}
		b := *m.byteAt(at)
		if b == 0 {
			return string(out), none, api.OK
		}
		out = append(out, b)
	}
	return "", none, api.ErrLong
}

// number is that of bytes, the highest first.
func number(s string) (v uint64) {
	for i := range len(s) {
		v = v*256 + uint64(s[i])
	}
	return v
}

// chance hands out numbers by a simple rule.
type chance uint64

func (c *chance) below(n uint64) uint64 {
	*c = *c*6364136223846793005 + 1442695040888963407
	return uint64(*c>>33) % n
}

// address is mostly one near to a page's border.
func (c *chance) address() uint32 {
	page := uint32(c.below(40))
	if c.below(4) == 0 {
		page = lastPage - 1 + uint32(c.below(3)) // the third is page 2^20, which is 0 again
	}
	switch c.below(4) {
	case 0:
		return page*size + uint32(c.below(size))
	case 1:
		return page*size + uint32(c.below(12))
	}
	return page*size - uint32(c.below(12))
}

// length is mostly a small one.
func (c *chance) length() uint64 {
	switch c.below(12) {
	case 0:
		return c.below(3 * size)
	case 1:
		return most - 2 + c.below(4)
	case 2, 3:
		return c.below(300)
	}
	return c.below(24)
}

// text is n bytes, among them hardly a 0, or some, or all.
func (c *chance) text(n uint64) string {
	zeros := []uint64{0, 1, 30, 256}[c.below(4)]
	out := make([]byte, n)
	for i := range out {
		if c.below(256) >= zeros {
			out[i] = byte(1 + c.below(255))
		}
	}
	return string(out)
}

// P5.1 to P5.5: calls one behind the other come to the same as in the model; no byte elsewhere, no page, and nothing out of reach changes; memories stay fit, and what was given stays as it was.
func TestAgainstModel(t *testing.T) {
	for seed := range 10 {
		c := chance(seed)
		m := newModel(bases[seed%len(bases)], &c)
		g := m.guest()
		if !guest.Fit(g) {
			t.Fatal("the model's memory is not fit")
		}
		for i := range 150 {
			before := cloned(g)
			next := oneChange(t, &c, m, g)
			if !equal(g, before) {
				t.Fatalf("seed %d, call %d: what was given changed", seed, i)
			}
			if g = next; !equal(g, m.guest()) || !guest.Fit(g) {
				t.Fatalf("seed %d, call %d: not as the model", seed, i)
			}
			for range 20 {
				oneQuestion(t, &c, m, g)
			}
		}
	}
}

// oneChange does a change by chance in both, and holds their faults against each other.
func oneChange(t *testing.T, c *chance, m *model, g api.Guest) api.Guest {
	t.Helper()
	a, s := c.address(), c.text(c.length())
	var f, want api.Fault
	what := ""
	switch c.below(3) {
	case 0:
		what, want = "Put", m.put(a, s, api.PrWrite)
		g, f = Put(g, a, s)
	case 1:
		what, want = "Poke", m.put(a, s, 0)
		g, f = Poke(g, a, s)
	default:
		what, s = "Store", c.text(1<<c.below(4))
		above := c.below(1<<31) << (4 * len(s)) << (4 * len(s)) // bits that are not put
		want = m.put(a, s, api.PrWrite)
		g, f = Store(g, a, len(s), number(s)+above)
	}
	if f != want {
		t.Fatalf("%s at %d, %d: %v; want %v", what, a, len(s), f, want)
	}
	return g
}

// oneQuestion asks both by chance.
func oneQuestion(t *testing.T, c *chance, m *model, g api.Guest) {
	t.Helper()
	a := c.address()
	switch c.below(4) {
	case 0:
		n := c.length()
		want, fault := m.told(a, n, api.PrRead)
		if s, f := Bytes(g, a, uint32(n)); s != want || f != fault {
			t.Fatalf("Bytes at %d, %d: %q, %v; want %q, %v", a, n, s, f, want, fault)
		}
	case 1:
		n := 1 << c.below(4)
		want, fault := m.told(a, uint64(n), api.PrRead)
		if v, f := Load(g, a, n); v != number(want) || f != fault {
			t.Fatalf("Load at %d, %d: %#x, %v; want %q, %v", a, n, v, f, want, fault)
		}
	case 2:
		want, fault := m.told(a, 4, api.PrExec)
		if v, f := Fetch(g, a); uint64(v) != number(want) || f != fault {
			t.Fatalf("Fetch at %d: %#x, %v; want %q, %v", a, v, f, want, fault)
		}
	default:
		n := int(c.below(300)) - 20
		want, fault, errno := m.text(a, n)
		if s, f, e := Text(g, a, n); s != want || f != fault || e != errno {
			t.Fatalf("Text at %d, %d: %q, %v, %v; want %q, %v, %v", a, n, s, f, e, want, fault, errno)
		}
	}
}

// 0.5: what a call tells shares no memory with what it was given, nor with what another call tells, beside faults either.
func TestNothingShared(t *testing.T) {
	g := mapped(t, whole, api.Page{N: 1, Prot: 3}, api.Page{N: 2, Prot: 1})
	g = laid(t, laid(t, g, size, counted(40)), 2*size, counted(40))
	calls := map[string]struct {
		kind int
		call func(api.Guest) (api.Guest, api.Fault)
	}{
		"Put":              {api.FtNone, func(g api.Guest) (api.Guest, api.Fault) { return Put(g, size+9, "abc") }},
		"Put of nothing":   {api.FtNone, func(g api.Guest) (api.Guest, api.Fault) { return Put(g, size+9, "") }},
		"Put, FtThere":     {api.FtThere, func(g api.Guest) (api.Guest, api.Fault) { return Put(g, 0, "abc") }},
		"Put, FtRight":     {api.FtRight, func(g api.Guest) (api.Guest, api.Fault) { return Put(g, 2*size-1, "abc") }},
		"Put of too many":  {api.FtThere, func(g api.Guest) (api.Guest, api.Fault) { return Put(g, size, counted(most+1)) }},
		"Poke":             {api.FtNone, func(g api.Guest) (api.Guest, api.Fault) { return Poke(g, 2*size-3, "abcdef") }},
		"Poke of nothing":  {api.FtNone, func(g api.Guest) (api.Guest, api.Fault) { return Poke(g, 0, "") }},
		"Poke, FtThere":    {api.FtThere, func(g api.Guest) (api.Guest, api.Fault) { return Poke(g, 3*size-1, "abcdef") }},
		"Poke of 0":        {api.FtNone, func(g api.Guest) (api.Guest, api.Fault) { return Poke(g, size, string(make([]byte, 2*size))) }},
		"Store":            {api.FtNone, func(g api.Guest) (api.Guest, api.Fault) { return Store(g, size+5, 8, 99) }},
		"Store, FtRight":   {api.FtRight, func(g api.Guest) (api.Guest, api.Fault) { return Store(g, 2*size+5, 8, 99) }},
		"Store of 3 bytes": {api.FtNone, func(g api.Guest) (api.Guest, api.Fault) { return Store(g, size, 3, 99) }},
	}
	for what, row := range calls {
		given := api.Guest{
			Host:  api.Host{Maps: append(make([]api.Map, 0, 100), g.Host.Maps...), Cells: append(make([]api.Cell, 0, 100), g.Host.Cells...)},
			Base:  g.Base,
			Pages: append(make([]api.Page, 0, 100), g.Pages...),
		}
		got, f := row.call(given)
		other, _ := row.call(given)
		if f.Kind != row.kind || f != none && !equal(got, g) {
			t.Errorf("%s: %v, %v", what, got, f)
		}
		if !equal(given, g) {
			t.Errorf("%s: what was given changed", what)
		}
		keep := cloned(got)
		scribble(given)
		scribble(other)
		if !equal(got, keep) {
			t.Errorf("%s: what it told changed", what)
		}
	}
}

// scribble changes all that a memory's lists have room for.
func scribble(g api.Guest) {
	maps, cells, pages := g.Host.Maps[:cap(g.Host.Maps)], g.Host.Cells[:cap(g.Host.Cells)], g.Pages[:cap(g.Pages)]
	for i := range maps {
		maps[i] = api.Map{Page: 1234, Prot: 56}
	}
	for i := range cells {
		cells[i] = api.Cell{At: 1234, Word: 56}
	}
	for i := range pages {
		pages[i] = api.Page{N: 1234, Prot: 56}
	}
}

// 0.1: no call panics, whatever memory it is given.
func TestAnyMemory(t *testing.T) {
	odd := []uint64{0, 1, 3, 4, 7, 8, 255, 256, 4095, 4096, 16384, 1<<18 - 1, 1 << 18, lastPage, lastPage + 1, 1<<32 - 9, 1<<32 - 1, 1 << 32, 1<<50 - 1, 1 << 50, topBase, topBase + 1, 1 << 63, math.MaxUint64 - 16383, math.MaxUint64 - 3, math.MaxUint64}
	for seed := range 60 {
		c := chance(seed)
		pick := func() uint64 { return odd[c.below(uint64(len(odd)))] }
		g := api.Guest{Base: pick()}
		for range c.below(80) {
			g.Host.Maps = append(g.Host.Maps, api.Map{Page: pick(), Prot: int(c.below(20)) - 6})
		}
		for range c.below(12) {
			g.Host.Cells = append(g.Host.Cells, api.Cell{At: pick(), Word: c.below(3)})
		}
		for range c.below(300) {
			g.Pages = append(g.Pages, api.Page{N: uint32(pick()), Prot: int(c.below(20)) - 6})
		}
		if seed%2 == 0 { // all of the guest's pages, so that faults do not end it
			g.Pages = nil
			for i := range uint32(300) {
				g.Pages = append(g.Pages, api.Page{N: i, Prot: 7})
			}
		}
		for _, at := range odd {
			a := uint32(at)
			for _, n := range []int{0, 1, 7, 300, 5000, most + 1} {
				Bytes(g, a, uint32(n))
				Put(g, a, counted(n))
				Poke(g, a, counted(n))
			}
			for _, n := range append([]int{1, 2, 4, 8, 255}, wrongWidths...) {
				Load(g, a, n)
				Store(g, a, n, math.MaxUint64)
				Text(g, a, n)
			}
			Fetch(g, a)
		}
	}
}
