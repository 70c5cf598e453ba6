package image

import (
	"cmp"
	"math"
	"slices"
	"strings"
	"testing"

	"ferry/api"
	"ferry/elf"
	"ferry/gmap"
)

// modelParse asks each of the document's conditions by itself, page by page.
func modelParse(s string) (api.Image, api.Errno) {
	e, err := elf.Parse(s)
	if err != api.OK {
		return api.Image{}, err
	}
	m, good, pages, kinds := api.Image{Elf: e}, true, []int64{}, [4]int{}
	for _, g := range e.Segs {
		kinds[g.Kind]++
		text := s[g.Off : g.Off+g.Size]
		switch g.Kind {
		case api.SgLoad:
			good = good && g.Room > 0
			for page := int64(g.At) / size; page*size < int64(g.At)+int64(g.Room); page++ {
				pages = append(pages, page)
			}
		case api.SgInterp:
			good = good && len(text) >= 2 && len(text) <= 256 && strings.Count(text, "\x00") == 1 && strings.HasSuffix(text, "\x00")
			m.Interp = strings.ReplaceAll(text, "\x00", "")
		case api.SgDyn:
			good = good && g.Size > 0 && g.Size%8 == 0 && slices.ContainsFunc(e.Segs, func(l api.Seg) bool {
				return l.Kind == api.SgLoad && l.At <= g.At && int64(g.At)+int64(g.Size) <= int64(l.At)+int64(l.Size)
			})
			m.DynAt, m.DynLen = g.At, g.Size
		}
	}
	for i := range pages {
		good = good && (i == 0 || pages[i-1] < pages[i])
	}
	if !good || len(pages) == 0 || kinds[api.SgInterp] > 1 || kinds[api.SgDyn] > 1 {
		return api.Image{}, api.ErrForm
	}
	low, high := pages[0]*size, (pages[len(pages)-1]+1)*size
	if high-low > most*size || high >= whole {
		return api.Image{}, api.ErrForm
	}
	m.Low, m.High = uint32(low), uint32(high)
	return m, api.OK
}

// modelByte is a byte of a segment, and whether it has one there.
func modelByte(g api.Seg, s string, at int64) (byte, bool) {
	i := at - int64(g.At)
	switch {
	case i < 0 || i >= int64(g.Room):
		return 0, false
	case i < int64(g.Size):
		return s[int64(g.Off)+i], true
	}
	return 0, true
}

// modelBytes asks byte by byte; of no bytes it asks whether they would stand within a segment, or at its end.
func modelBytes(m api.Image, s string, at, n int64) (string, bool) {
	for _, g := range m.Elf.Segs {
		if g.Kind != api.SgLoad || at < int64(g.At) || at > int64(g.At)+int64(g.Room) || n > 65536 {
			continue
		}
		out, all := []byte{}, true
		for a := at; a < at+n && all; a++ {
			b, is := modelByte(g, s, a)
			out, all = append(out, b), is
		}
		if all {
			return string(out), true
		}
	}
	return "", false
}

// model is a space, byte by byte: where it is in the host, what the host has out of its reach, its pages, its bytes that are not 0.
type model struct {
	base       uint64
	far        api.Host
	prots      map[int64]int
	bytes      map[int64]byte
	start, end uint32
}

// space is what the model says.
func (m *model) space() api.Space {
	g := api.Guest{Base: m.base, Host: api.Host{Maps: slices.Clone(m.far.Maps), Cells: slices.Clone(m.far.Cells)}}
	for page := range hostPages(m.prots) {
		g.Host.Maps = append(g.Host.Maps, api.Map{Page: m.base/hostSize + uint64(page), Prot: 3})
	}
	for page, prot := range m.prots {
		g.Pages = append(g.Pages, api.Page{N: uint32(page), Prot: prot})
	}
	words := map[uint64]uint64{}
	for a, b := range m.bytes {
		at := m.base + uint64(a)
		words[at&^7] |= uint64(b) << (8 * (at & 7))
	}
	for at, w := range words {
		if w != 0 {
			g.Host.Cells = append(g.Host.Cells, api.Cell{At: at, Word: w})
		}
	}
	slices.SortFunc(g.Host.Maps, func(a, b api.Map) int { return cmp.Compare(a.Page, b.Page) })
	slices.SortFunc(g.Host.Cells, func(a, b api.Cell) int { return cmp.Compare(a.At, b.At) })
	slices.SortFunc(g.Pages, func(a, b api.Page) int { return cmp.Compare(a.N, b.N) })
	return api.Space{Guest: g, Start: m.start, End: m.end}
}

// hostPages are the host's pages from Base on in which one of the guest's is.
func hostPages(prots map[int64]int) map[int64]bool {
	out := map[int64]bool{}
	for page := range prots {
		out[page*size/hostSize] = true
	}
	return out
}

// load is Load; with an error the model is of no use any more.
func (m *model) load(i api.Image, s string, moved uint32) api.Errno {
	low := (int64(i.Low) + int64(moved)) % whole
	switch {
	case moved%size != 0 || moved != 0 && !i.Elf.Shared:
		return api.ErrInval
	case low < 4096 || low+int64(i.High)-int64(i.Low) > top:
		return api.ErrInval
	}
	by := low - int64(i.Low)
	then := map[int64]int{}
	for _, g := range i.Elf.Segs {
		for page := int64(g.At) / size; g.Kind == api.SgLoad && page*size < int64(g.At)+int64(g.Room); page++ {
			if _, is := m.prots[page+by/size]; is {
				return api.ErrMem
			}
		}
	}
	for page, prot := range m.prots {
		then[page] = prot
	}
	for _, g := range i.Elf.Segs {
		if g.Kind != api.SgLoad {
			continue
		}
		for page := int64(g.At) / size; page*size < int64(g.At)+int64(g.Room); page++ {
			then[page+by/size] = g.Prot
		}
		if len(then) > 256 {
			return api.ErrMem
		}
		if len(hostPages(then))+len(m.far.Maps) > 64 {
			return api.ErrFull
		}
		for a := int64(g.At); a < int64(g.At)+int64(g.Size); a++ {
			m.bytes[a+by] = s[int64(g.Off)+a-int64(g.At)]
		}
	}
	m.prots = then
	return api.OK
}

// chance hands out numbers by a simple rule.
type chance uint64

func (c *chance) below(n int) int {
	*c = *c*6364136223846793005 + 1442695040888963407
	return int(uint64(*c>>33) % uint64(n))
}

func oneOf[T any](c *chance, all ...T) T { return all[c.below(len(all))] }

// segments are mostly those of an image: SgLoads that rise, and now and then a table and who loads it.
func (c *chance) segments() []api.Seg {
	var out []api.Seg
	at := oneOf(c, 0, 0x400000, 0x400000, top-size*c.below(70), whole-size*c.below(20)-1)
	for range oneOf(c, 1, 1, 2, 2, 3, 5, 1+c.below(12), 0) {
		at += oneOf(c, 0, 0, 1, 7, 4095, 4096, c.below(3*size))
		room := oneOf(c, 1, 4096, 4095, 1+c.below(300), 1+c.below(4*size), 1+c.below(12*size))
		switch c.below(40) {
		case 0:
			room = size*(most-3) + c.below(5*size)
		case 1:
			room = 0
		}
		g := api.Seg{Kind: api.SgLoad, At: uint32(min(at, whole-2)), Prot: c.below(8), Align: 4096}
		g.Off = g.At%size + uint32(oneOf(c, 0, 0, 4096))
		g.Room = uint32(min(room, whole-1-int(g.At)))
		g.Size = min(g.Room, uint32(oneOf(c, 0, c.below(200), c.below(6*size), room)), 20000)
		out = append(out, g)
		at = int(g.At) + int(g.Room)
		if c.below(20) > 0 {
			at = (at + size - 1) / size * size
		}
	}
	for range oneOf(c, 0, 0, 0, 0, 1, 1, 1, 2) {
		out = slices.Insert(out, c.below(len(out)+1), c.table(out))
	}
	if c.below(3) == 0 {
		out = slices.Insert(out, c.below(len(out)+1), api.Seg{Kind: api.SgInterp, Off: 600, Size: 9, Room: 9})
	}
	if c.below(40) == 0 {
		i := c.below(len(out) + 1)
		out = slices.Insert(out, i, out[min(i, len(out)):min(i+1, len(out))]...)
	}
	return out
}

// table is a SgDyn, mostly within one of some segments.
func (c *chance) table(segs []api.Seg) api.Seg {
	g := api.Seg{Kind: api.SgDyn, At: 0x400000, Size: uint32(8 * (1 + c.below(4)))}
	if len(segs) > 0 {
		in := oneOf(c, segs...)
		g.At = in.At + uint32(oneOf(c, 0, 0, c.below(int(in.Size)+1), max(0, int(in.Size)-int(g.Size)), int(in.Size)))
	}
	if c.below(12) == 0 {
		g.Size = uint32(c.below(20))
	}
	if uint64(g.At)+uint64(g.Size) >= whole {
		g.At = 0
	}
	g.Room = g.Size
	return g
}

// file is a file of some segments, with who loads it at its place.
func (c *chance) file() string {
	segs := c.segments()
	s := elf.Write(api.Elf{Shared: c.below(3) > 0, Entry: 0x400000, Segs: segs[:min(16, len(segs))]})
	out := []byte(s)
	for i := range 600 + c.below(200) + 24000*min(1, c.below(15)) - len(s) {
		out = append(out, byte(1+(i*13+i/251)%255))
	}
	copy(out[600:], oneOf(c, "/lib/ld1\x00", "/lib/ld1\x00", "/lib/ld1\x00", "/lib/ld11", "/li\x00/ld1\x00"))
	return string(out)
}

// newModel has pages about where images are, each with a byte or two, and pages of the host out of the guest's reach.
func newModel(c *chance) *model {
	m := &model{base: oneOf[uint64](c, 0, hostSize, whole, 1<<62), prots: map[int64]int{}, bytes: map[int64]byte{}}
	m.start = uint32(size * c.below(0x500))
	m.end = m.start + uint32(c.below(9*size))
	if m.base > 0 {
		m.far.Maps = append(m.far.Maps, api.Map{Page: m.base/hostSize - 1, Prot: 5})
		m.far.Cells = append(m.far.Cells, api.Cell{At: m.base - 8, Word: math.MaxUint64})
	}
	for range oneOf(c, 0, 0, 1, 4) {
		m.add(c, int64(oneOf(c, c.below(20), 0x400+c.below(12), 0x400+c.below(12), top/size-1-c.below(9), 1<<20-1)))
	}
	for i := range oneOf(c, 0, 0, 0, 232) {
		m.add(c, int64(0x20000+i))
	}
	left := 64 - len(m.far.Maps) - len(hostPages(m.prots))
	for i := range oneOf(c, 1, 1, 1, max(1, left-c.below(4))) {
		m.far.Maps = append(m.far.Maps, api.Map{Page: (m.base+whole)/hostSize + uint64(i), Prot: 2})
	}
	m.far.Cells = append(m.far.Cells, api.Cell{At: m.base + whole, Word: 1})
	return m
}

// add maps a page.
func (m *model) add(c *chance, page int64) {
	m.prots[page] = c.below(8)
	m.bytes[page*size] = byte(c.below(256))
	m.bytes[page*size+size-1] = byte(1 + c.below(255))
}

// moves is how far an image is moved: to where there is room, near an edge, or anywhere.
func (c *chance) moves(p api.Space, m api.Image) uint32 {
	room, _ := Room(p, m)
	pages := uint32(c.below(4)) * size
	if c.below(2) == 0 {
		return oneOf(c, 0, room, 0x400000+pages-m.Low)
	}
	return oneOf(c, 4096*8-pages-m.Low, size*2-pages-m.Low, top+size*2-pages-m.High, top+size*2-pages-m.Low, uint32(c.below(whole)), 0x30000000+pages)
}

// P14.1 to P14.6: files, bytes and spaces by chance, against the model.
func TestModel(t *testing.T) {
	c, parse, load, told := chance(14), map[api.Errno]int{}, map[api.Errno]int{}, [2]int{}
	for range 9000 {
		s := c.file()
		m, e := Parse(s)
		want, err := modelParse(s)
		if e != err || !same(m, want) {
			t.Fatalf("Parse of %v: %v, %v; want %v, %v", want.Elf, m, e, want, err)
		}
		if parse[e]++; e != api.OK {
			continue
		}
		bytesAgainstModel(t, &c, m, s, &told)
		load[loadAgainstModel(t, &c, m, s)]++
	}
	for _, e := range []api.Errno{api.OK, api.ErrForm, api.ErrRange} {
		if parse[e] < 100 {
			t.Errorf("Parse: %v was met but %d times", e, parse[e])
		}
	}
	for _, e := range []api.Errno{api.OK, api.ErrInval, api.ErrMem, api.ErrFull} {
		if load[e] < 100 {
			t.Errorf("Load: %v was met but %d times", e, load[e])
		}
	}
	if told[0] < 1000 || told[1] < 1000 {
		t.Errorf("Bytes: false, true: %v", told)
	}
}

// bytesAgainstModel asks for bytes near the segments' edges in both.
func bytesAgainstModel(t *testing.T, c *chance, m api.Image, s string, told *[2]int) {
	t.Helper()
	for range 8 {
		g := oneOf(c, m.Elf.Segs...)
		at := g.At + oneOf(c, 0, g.Size, g.Room, uint32(c.below(5000)), math.MaxUint32) - uint32(oneOf(c, 0, 0, 1, c.below(9)))
		n := oneOf(c, 0, 1, uint32(c.below(20)), g.Size, g.Room, g.At+g.Room-at, g.At+g.Room-at+1, 65536, 65537, math.MaxUint32)
		got, ok := Bytes(m, s, at, n)
		if want, is := modelBytes(m, s, int64(at), int64(n)); got != want || ok != is {
			t.Fatalf("Bytes of %v at %#x, %d: %q, %v; want %q, %v", m.Elf.Segs, at, n, got, ok, want, is)
		}
		if ok {
			told[1]++
		} else {
			told[0]++
		}
	}
}

// loadAgainstModel loads an image in both.
func loadAgainstModel(t *testing.T, c *chance, m api.Image, s string) api.Errno {
	t.Helper()
	model := newModel(c)
	p, before := model.space(), model.space()
	if !gmap.Fit(p) {
		t.Fatalf("the model's space is not fit: %v", p.Guest.Pages)
	}
	moved := c.moves(p, m)
	got, e := Load(p, m, s, moved)
	err := model.load(m, s, moved)
	want := before
	if err == api.OK {
		want = model.space()
	}
	if e != err || !equal(got, want) || !equal(p, before) || !gmap.Fit(got) {
		t.Fatalf("Load of %v, moved by %#x, pages %v: %v, pages %v; want %v", m.Elf.Segs, moved, before.Guest.Pages, e, got.Guest.Pages, err)
	}
	roomAgainstGmap(t, p, m)
	return e
}

// roomAgainstGmap asks gmap.Mmap what Room tells.
func roomAgainstGmap(t *testing.T, p api.Space, m api.Image) {
	t.Helper()
	_, at, err := gmap.Mmap(p, 0, m.High-m.Low, 0, false)
	want := at - m.Low
	if err != api.OK {
		want = 0
	}
	if !m.Elf.Shared {
		want, err = 0, api.ErrForm
	}
	if moved, e := Room(p, m); moved != want || e != err {
		t.Fatalf("Room from %#x up to %#x: %#x, %v; want %#x, %v", m.Low, m.High, moved, e, want, err)
	}
}

// 0.1: Parse of any bytes ends, and tells what the model does.
func TestAnyBytes(t *testing.T) {
	c := chance(141)
	for range 4000 {
		out := []byte(c.file()[:300+c.below(300)])
		for range 1 + c.below(4) {
			out[c.below(oneOf(&c, 300, 52+32*3))] = oneOf(&c, byte(c.below(256)), byte(c.below(9)), 0)
		}
		s := string(out)
		m, e := Parse(s)
		if want, err := modelParse(s); e != err || !same(m, want) {
			t.Fatalf("Parse of %q: %v, %v; want %v, %v", s, m, e, want, err)
		}
	}
}

// 0.1: no call panics, whatever image, file and space it is given.
func TestAnyImage(t *testing.T) {
	odd := []uint64{0, 1, 7, 8, 4095, 4096, 4097, 65536, 65537, 1<<20 - 1, 1 << 20, top - 4096, top - 1, top, top + 1, 1<<32 - 4096, 1<<32 - 1, 1 << 32, 1 << 62, math.MaxUint64}
	c := chance(142)
	pick := func() uint32 { return uint32(odd[c.below(len(odd))]) }
	for range 3000 {
		m := api.Image{Elf: api.Elf{Shared: c.below(2) == 0}, Low: pick(), High: pick(), DynAt: pick(), DynLen: pick()}
		for range c.below(20) {
			m.Elf.Segs = append(m.Elf.Segs, api.Seg{Kind: c.below(5), Off: pick(), At: pick(), Size: pick(), Room: pick(), Prot: c.below(12) - 2, Align: pick()})
		}
		p := api.Space{Guest: api.Guest{Base: odd[c.below(len(odd))]}, Start: pick(), End: pick()}
		for range c.below(9) {
			p.Guest.Host.Maps = append(p.Guest.Host.Maps, api.Map{Page: odd[c.below(len(odd))], Prot: c.below(12) - 2})
			p.Guest.Host.Cells = append(p.Guest.Host.Cells, api.Cell{At: odd[c.below(len(odd))], Word: 1})
			p.Guest.Pages = append(p.Guest.Pages, api.Page{N: pick(), Prot: c.below(12) - 2})
		}
		s := strings.Repeat("x", c.below(9000))
		Bytes(m, s, pick(), pick())
		Room(p, m)
		for _, moved := range []uint32{0, pick(), 4096 - m.Low, top - m.High, 0x400000 - m.Low} {
			Load(p, m, s, moved)
		}
	}
}
