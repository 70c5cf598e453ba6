package host

import (
	"math"
	"slices"
	"testing"

	"ferry/api"
)

const (
	pageSize = 16384
	places   = 1 << 50
	most     = 64
	mostCell = 65536
	lastByte = math.MaxUint64
	lastPage = places - 1
)

var wrongProts = []int{-1, 8, 9, -8, 15, 1 << 32, 1<<32 + 3, math.MinInt, math.MaxInt}

// cloned is a memory of the test's own.
func cloned(h api.Host) api.Host {
	return api.Host{Maps: slices.Clone(h.Maps), Cells: slices.Clone(h.Cells)}
}

// equal is the test's own Same.
func equal(a, b api.Host) bool {
	return slices.Equal(a.Maps, b.Maps) && slices.Equal(a.Cells, b.Cells)
}

// mapped is a memory with pages mapped one by one, each with the same prot.
func mapped(t *testing.T, prot int, pages ...uint64) api.Host {
	t.Helper()
	h := api.Host{}
	for _, p := range pages {
		var e api.Errno
		if h, e = Map(h, p, 1, prot); e != api.OK {
			t.Fatalf("Map of page %d: %v", p, e)
		}
	}
	return h
}

// stored is a memory with a number stored, which must be allowed.
func stored(t *testing.T, h api.Host, at uint64, n int, v uint64) api.Host {
	t.Helper()
	h, f := Store(h, at, n, v)
	if f != (api.Fault{}) {
		t.Fatalf("Store at %d, %d bytes: %v", at, n, f)
	}
	return h
}

// loads fails unless n bytes at an address are a number.
func loads(t *testing.T, h api.Host, at uint64, n int, want uint64) {
	t.Helper()
	if v, f := Load(h, at, n); v != want || f != (api.Fault{}) {
		t.Errorf("Load at %d, %d bytes: %#x, %v; want %#x", at, n, v, f, want)
	}
}

// is fails unless a memory is just what is wanted, and fit.
func is(t *testing.T, what string, got api.Host, want api.Host) {
	t.Helper()
	if !equal(got, want) {
		t.Errorf("%s: %v; want %v", what, got, want)
	}
	if !Fit(got) {
		t.Errorf("%s: %v is not fit", what, got)
	}
}

// pagesFrom are n pages in a row.
func pagesFrom(page uint64, n, prot int) []api.Map {
	var out []api.Map
	for i := range n {
		out = append(out, api.Map{Page: page + uint64(i), Prot: prot})
	}
	return out
}

// cellsFrom are n cells in a row.
func cellsFrom(at uint64, n int) []api.Cell {
	var out []api.Cell
	for i := range n {
		out = append(out, api.Cell{At: at + 8*uint64(i), Word: uint64(i) + 1})
	}
	return out
}

// The chapter's example (P3.2, P3.3).
func TestExample(t *testing.T) {
	h := mapped(t, 3, 2)
	g, f := Store(h, 49151, 2, 258)
	if f != (api.Fault{Kind: api.FtThere, At: 49152}) || !equal(g, h) {
		t.Errorf("Store over the border: %v, %v", g, f)
	}
	h = stored(t, h, 32768, 2, 258)
	loads(t, h, 32768, 1, 2)
	loads(t, h, 32769, 1, 1)
	loads(t, h, 32768, 2, 258)
	is(t, "stored", h, api.Host{Maps: []api.Map{{Page: 2, Prot: 3}}, Cells: []api.Cell{{At: 32768, Word: 258}}})
}

// P3.1: Fit, at each of its edges.
func TestFit(t *testing.T) {
	one := []api.Map{{Page: 2, Prot: 3}}
	fit := []api.Host{
		{},
		{Maps: []api.Map{}, Cells: []api.Cell{}},
		{Maps: one},
		{Maps: []api.Map{{Page: 0, Prot: 0}}},
		{Maps: []api.Map{{Page: lastPage, Prot: 7}}},
		{Maps: []api.Map{{Page: 0, Prot: 7}, {Page: 1, Prot: 0}, {Page: lastPage, Prot: 4}}},
		{Maps: pagesFrom(5, most, 1)},
		{Maps: one, Cells: []api.Cell{{At: 32768, Word: 1}}},
		{Maps: one, Cells: []api.Cell{{At: 32768, Word: 1}, {At: 32776, Word: lastByte}, {At: 49144, Word: 1 << 63}}},
		{Maps: []api.Map{{Page: 0, Prot: 0}}, Cells: []api.Cell{{At: 0, Word: 5}}},
		{Maps: []api.Map{{Page: lastPage, Prot: 0}}, Cells: []api.Cell{{At: lastByte - 7, Word: 5}}},
		{Maps: pagesFrom(0, 32, 3), Cells: cellsFrom(0, mostCell)},
	}
	for i, h := range fit {
		if !Fit(h) {
			t.Errorf("fit memory %d: Fit tells false", i)
		}
	}
	unfit := map[string]api.Host{
		"too many pages":           {Maps: pagesFrom(5, most+1, 1)},
		"a page above all":         {Maps: []api.Map{{Page: places, Prot: 1}}},
		"a page of 64 bits":        {Maps: []api.Map{{Page: lastByte, Prot: 1}}},
		"a page twice":             {Maps: []api.Map{{Page: 2, Prot: 1}, {Page: 2, Prot: 1}}},
		"pages that fall":          {Maps: []api.Map{{Page: 3, Prot: 1}, {Page: 2, Prot: 1}}},
		"pages that fall at last":  {Maps: []api.Map{{Page: 1, Prot: 1}, {Page: 3, Prot: 1}, {Page: 2, Prot: 1}}},
		"too many cells":           {Maps: pagesFrom(0, 33, 3), Cells: cellsFrom(0, mostCell+1)},
		"a cell on no page":        {Cells: []api.Cell{{At: 0, Word: 1}}},
		"a cell ahead of the page": {Maps: one, Cells: []api.Cell{{At: 32760, Word: 1}}},
		"a cell behind the page":   {Maps: one, Cells: []api.Cell{{At: 49152, Word: 1}}},
		"a cell at no multiple":    {Maps: one, Cells: []api.Cell{{At: 32772, Word: 1}}},
		"a cell at an odd address": {Maps: one, Cells: []api.Cell{{At: 32769, Word: 1}}},
		"a cell of 0":              {Maps: one, Cells: []api.Cell{{At: 32768, Word: 0}}},
		"a last cell of 0":         {Maps: one, Cells: []api.Cell{{At: 32768, Word: 1}, {At: 32776, Word: 0}}},
		"a cell twice":             {Maps: one, Cells: []api.Cell{{At: 32768, Word: 1}, {At: 32768, Word: 1}}},
		"cells that fall":          {Maps: one, Cells: []api.Cell{{At: 32776, Word: 1}, {At: 32768, Word: 1}}},
	}
	for what, h := range unfit {
		if Fit(h) {
			t.Errorf("%s: Fit tells true", what)
		}
	}
	for _, p := range wrongProts {
		if Fit(api.Host{Maps: []api.Map{{Page: 1, Prot: 3}, {Page: 2, Prot: p}}}) {
			t.Errorf("Prot %d: Fit tells true", p)
		}
	}
	for p := range 8 {
		if !Fit(api.Host{Maps: []api.Map{{Page: 2, Prot: p}}}) {
			t.Errorf("Prot %d: Fit tells false", p)
		}
	}
}

// P3.1: Same, of fit memories and of others.
func TestSame(t *testing.T) {
	all := []api.Host{
		{},
		{Maps: []api.Map{{Page: 2, Prot: 3}}},
		{Maps: []api.Map{{Page: 2, Prot: 1}}},
		{Maps: []api.Map{{Page: 3, Prot: 3}}},
		{Maps: []api.Map{{Page: 2, Prot: 3}, {Page: 3, Prot: 3}}},
		{Maps: []api.Map{{Page: 3, Prot: 3}, {Page: 2, Prot: 3}}},
		{Maps: []api.Map{{Page: 2, Prot: -9}}},
		{Maps: []api.Map{{Page: lastByte, Prot: 3}}},
		{Maps: []api.Map{{Page: 2, Prot: 3}}, Cells: []api.Cell{{At: 32768, Word: 1}}},
		{Maps: []api.Map{{Page: 2, Prot: 3}}, Cells: []api.Cell{{At: 32768, Word: 2}}},
		{Maps: []api.Map{{Page: 2, Prot: 3}}, Cells: []api.Cell{{At: 32776, Word: 1}}},
		{Maps: []api.Map{{Page: 2, Prot: 3}}, Cells: []api.Cell{{At: 32768, Word: 1}, {At: 32776, Word: 1}}},
		{Cells: []api.Cell{{At: 32768, Word: 1}}},
		{Cells: []api.Cell{{At: 32768, Word: 0}}},
		{Cells: []api.Cell{{At: 3, Word: 0}}},
	}
	for i, a := range all {
		for j, b := range all {
			if Same(a, cloned(b)) != (i == j) {
				t.Errorf("Same of %v and %v: %v", a, b, i != j)
			}
		}
	}
	if !Same(api.Host{}, api.Host{Maps: []api.Map{}, Cells: []api.Cell{}}) { // an empty list is none (0.7)
		t.Error("Same of empty lists and none: false")
	}
}

// wrongPages are pages of which the host has not all, or that are none.
var wrongPages = []struct{ page, n uint64 }{
	{0, 0}, {2, 0}, {lastPage, 0}, {places, 0}, {lastByte, 0},
	{places, 1}, {lastPage, 2}, {0, places + 1}, {1, places}, {places - 3, 4},
	{lastByte, 1}, {1, lastByte}, {lastByte, lastByte}, {lastByte, 2}, {2, lastByte}, {1 << 63, 1 << 63}, {lastByte - 1, 3},
	{places, lastByte - places + 1}, {lastByte - 4, 8}, {0, lastByte},
}

// P3.2: what Map, Unmap and Protect begin with; a memory that stays.
func TestWrongPages(t *testing.T) {
	full := api.Host{Maps: pagesFrom(0, most, 3), Cells: []api.Cell{{At: 32768, Word: 1}}}
	for _, h := range []api.Host{{}, mapped(t, 3, 2), mapped(t, 3, 0, lastPage), full} {
		refused := func(what string, page, n uint64, prot int, g api.Host, e api.Errno) {
			t.Helper()
			if e != api.ErrInval || !equal(g, h) {
				t.Errorf("%s of page %d, %d, %d: %v, %v", what, page, n, prot, g, e)
			}
		}
		for _, w := range wrongPages {
			for _, prot := range []int{0, 3, 7, 8, -1} {
				g, e := Map(h, w.page, w.n, prot)
				refused("Map", w.page, w.n, prot, g, e)
				g, e = Protect(h, w.page, w.n, prot)
				refused("Protect", w.page, w.n, prot, g, e)
			}
			g, e := Unmap(h, w.page, w.n)
			refused("Unmap", w.page, w.n, 0, g, e)
		}
		for _, prot := range wrongProts {
			for _, page := range []uint64{2, 1, 100, lastPage} { // there, or not: ErrInval is named first
				g, e := Map(h, page, 1, prot)
				refused("Map", page, 1, prot, g, e)
				g, e = Protect(h, page, 1, prot)
				refused("Protect", page, 1, prot, g, e)
			}
		}
	}
}

// P3.2: Map, ahead of, between and behind others, with each prot.
func TestMap(t *testing.T) {
	h := api.Host{}
	for _, row := range []struct {
		page, n uint64
		prot    int
		want    []api.Map
	}{
		{5, 1, 0, []api.Map{{Page: 5}}},
		{9, 2, 7, []api.Map{{Page: 5}, {Page: 9, Prot: 7}, {Page: 10, Prot: 7}}},
		{6, 3, 1, []api.Map{{Page: 5}, {Page: 6, Prot: 1}, {Page: 7, Prot: 1}, {Page: 8, Prot: 1}, {Page: 9, Prot: 7}, {Page: 10, Prot: 7}}},
		{0, 1, 2, []api.Map{{Page: 0, Prot: 2}, {Page: 5}, {Page: 6, Prot: 1}, {Page: 7, Prot: 1}, {Page: 8, Prot: 1}, {Page: 9, Prot: 7}, {Page: 10, Prot: 7}}},
		{lastPage, 1, 4, []api.Map{{Page: 0, Prot: 2}, {Page: 5}, {Page: 6, Prot: 1}, {Page: 7, Prot: 1}, {Page: 8, Prot: 1}, {Page: 9, Prot: 7}, {Page: 10, Prot: 7}, {Page: lastPage, Prot: 4}}},
	} {
		g, e := Map(h, row.page, row.n, row.prot)
		if e != api.OK {
			t.Errorf("Map of page %d: %v", row.page, e)
		}
		is(t, "Map", g, api.Host{Maps: row.want})
		h = g
	}
	with := stored(t, mapped(t, 3, 1, 3), 3*pageSize, 8, 77)
	g, e := Map(with, 2, 1, 3)
	if e != api.OK {
		t.Errorf("Map between: %v", e)
	}
	is(t, "Map beside bytes", g, api.Host{Maps: pagesFrom(1, 3, 3), Cells: with.Cells})
	for at := uint64(2 * pageSize); at < 3*pageSize; at += 8 {
		loads(t, g, at, 8, 0)
	}
}

// P3.2: ErrThere, wherever in the pages the one stands that is mapped; ErrFull, behind it.
func TestMapRefused(t *testing.T) {
	h := stored(t, mapped(t, 3, 5, 9), 5*pageSize, 8, 77)
	for _, row := range []struct {
		page, n uint64
		want    api.Errno
	}{
		{5, 1, api.ErrThere}, {9, 1, api.ErrThere}, {4, 2, api.ErrThere}, {5, 2, api.ErrThere}, {3, 3, api.ErrThere},
		{4, 10, api.ErrThere}, {6, 4, api.ErrThere}, {0, 100, api.ErrThere}, {0, places, api.ErrThere}, {9, places - 9, api.ErrThere},
		{10, places - 10, api.ErrFull}, {10, most - 1, api.ErrFull}, {10, most, api.ErrFull}, {10, 1 << 32, api.ErrFull}, {10, 1<<32 + 1, api.ErrFull},
	} {
		if g, e := Map(h, row.page, row.n, 1); e != row.want || !equal(g, h) {
			t.Errorf("Map of page %d, %d: %v, %v; want %v", row.page, row.n, g, e, row.want)
		}
	}
	if g, e := Map(api.Host{}, 0, places, 1); e != api.ErrFull || !equal(g, api.Host{}) {
		t.Errorf("Map of all pages: %v, %v", g, e)
	}
}

// P3.2: as many pages as MaxMaps, and one more.
func TestMapFull(t *testing.T) {
	for _, had := range []int{0, 1, 30, most - 1} {
		h := api.Host{Maps: pagesFrom(1000, had, 1)}
		g, e := Map(h, 3, uint64(most-had), 2)
		if e != api.OK {
			t.Errorf("Map of %d pages beside %d: %v", most-had, had, e)
		}
		is(t, "all pages", g, api.Host{Maps: append(pagesFrom(3, most-had, 2), h.Maps...)})
		if again, e := Map(h, 3, uint64(most-had+1), 2); e != api.ErrFull || !equal(again, h) {
			t.Errorf("Map of %d pages beside %d: %v, %v", most-had+1, had, again, e)
		}
		if again, e := Map(g, 0, 1, 2); e != api.ErrFull || !equal(again, g) {
			t.Errorf("Map of one more: %v, %v", again, e)
		}
		if again, e := Map(g, 3, 1, 2); e != api.ErrThere || !equal(again, g) {
			t.Errorf("Map of one that is there: %v, %v", again, e)
		}
	}
}

// P3.2: Unmap, of pages of which all, some or none are mapped, with their bytes.
func TestUnmap(t *testing.T) {
	h := mapped(t, 3, 0, 4, 5, 6, 9, lastPage)
	for _, m := range h.Maps {
		h = stored(t, h, m.Page*pageSize, 8, m.Page+1)
		h = stored(t, h, m.Page*pageSize+pageSize-8, 8, m.Page+2)
	}
	for _, row := range []struct{ page, n uint64 }{
		{0, 1}, {1, 1}, {1, 3}, {4, 1}, {5, 1}, {6, 1}, {4, 2}, {5, 2}, {4, 3}, {3, 2}, {6, 2}, {6, 4}, {7, 2}, {0, 5}, {0, 10},
		{10, 5}, {lastPage, 1}, {lastPage - 1, 2}, {9, places - 9}, {10, places - 10}, {0, places}, {0, lastPage}, {1, lastPage},
	} {
		var want api.Host
		for _, m := range h.Maps {
			if m.Page < row.page || m.Page-row.page >= row.n {
				want.Maps = append(want.Maps, m)
			}
		}
		for _, c := range h.Cells {
			if p := c.At / pageSize; p < row.page || p-row.page >= row.n {
				want.Cells = append(want.Cells, c)
			}
		}
		g, e := Unmap(h, row.page, row.n)
		if e != api.OK {
			t.Errorf("Unmap of page %d, %d: %v", row.page, row.n, e)
		}
		is(t, "Unmap", g, want)
	}
	if g, e := Unmap(h, 0, places); e != api.OK || g.Maps != nil || g.Cells != nil {
		t.Errorf("Unmap of all: %v, %v", g, e)
	}
	if g, e := Unmap(api.Host{}, 3, 1); e != api.OK || g.Maps != nil || g.Cells != nil {
		t.Errorf("Unmap of nothing: %v, %v", g, e)
	}
}

// P3.6: a page that went and came back is 0; one that stayed is not.
func TestComesBack(t *testing.T) {
	h := mapped(t, 3, 4, 5, 6)
	for at := uint64(4 * pageSize); at < 7*pageSize; at += 1000 {
		h = stored(t, h, at, 8, at)
	}
	g, e := Unmap(h, 5, 1)
	if e != api.OK {
		t.Fatal(e)
	}
	if g, e = Map(g, 5, 1, 3); e != api.OK {
		t.Fatal(e)
	}
	if !Fit(g) || !slices.Equal(g.Maps, h.Maps) {
		t.Errorf("pages that came back: %v", g.Maps)
	}
	for at := uint64(4 * pageSize); at < 7*pageSize; at++ {
		want, _ := Load(h, at, 1)
		if at/pageSize == 5 {
			want = 0
		}
		loads(t, g, at, 1, want)
	}
}

// P3.2: Protect, of one page, of all, and where one is missing.
func TestProtect(t *testing.T) {
	h := stored(t, mapped(t, 3, 4, 5, 6, 9, lastPage), 5*pageSize, 8, 77)
	for _, row := range []struct {
		page, n uint64
		prots   [5]int
		e       api.Errno
	}{
		{4, 1, [5]int{6, 3, 3, 3, 3}, api.OK}, {5, 1, [5]int{3, 6, 3, 3, 3}, api.OK}, {6, 1, [5]int{3, 3, 6, 3, 3}, api.OK},
		{4, 2, [5]int{6, 6, 3, 3, 3}, api.OK}, {5, 2, [5]int{3, 6, 6, 3, 3}, api.OK}, {4, 3, [5]int{6, 6, 6, 3, 3}, api.OK},
		{9, 1, [5]int{3, 3, 3, 6, 3}, api.OK}, {lastPage, 1, [5]int{3, 3, 3, 3, 6}, api.OK},
		{3, 1, [5]int{3, 3, 3, 3, 3}, api.ErrNone}, {3, 2, [5]int{3, 3, 3, 3, 3}, api.ErrNone}, {4, 4, [5]int{3, 3, 3, 3, 3}, api.ErrNone},
		{4, 6, [5]int{3, 3, 3, 3, 3}, api.ErrNone}, {6, 2, [5]int{3, 3, 3, 3, 3}, api.ErrNone}, {7, 2, [5]int{3, 3, 3, 3, 3}, api.ErrNone},
		{0, 1, [5]int{3, 3, 3, 3, 3}, api.ErrNone}, {0, places, [5]int{3, 3, 3, 3, 3}, api.ErrNone}, {4, 1<<32 + 3, [5]int{3, 3, 3, 3, 3}, api.ErrNone}, {4, 1<<32 + 4, [5]int{3, 3, 3, 3, 3}, api.ErrNone},
		{lastPage - 1, 2, [5]int{3, 3, 3, 3, 3}, api.ErrNone},
	} {
		want := cloned(h)
		for i := range want.Maps {
			want.Maps[i].Prot = row.prots[i]
		}
		g, e := Protect(h, row.page, row.n, 6)
		if e != row.e {
			t.Errorf("Protect of page %d, %d: %v; want %v", row.page, row.n, e, row.e)
		}
		is(t, "Protect", g, want)
	}
	for prot := range 8 {
		if g, e := Protect(h, 9, 1, prot); e != api.OK || g.Maps[3].Prot != prot {
			t.Errorf("Protect by %d: %v, %v", prot, g, e)
		}
	}
}

// P3.3: Load and Store of n that is none: nothing is done, and there is no fault, wherever.
func TestWrongBytes(t *testing.T) {
	h := stored(t, mapped(t, 3, 2), 32768, 8, lastByte)
	for _, n := range []int{0, 9, -1, -8, 10, 16, 64, 1 << 32, 1<<32 + 1, 1<<56 + 1, math.MaxInt, math.MinInt, math.MinInt + 1} {
		for _, at := range []uint64{32768, 32770, 49150, 0, 49152, lastByte} {
			if v, f := Load(h, at, n); v != 0 || f != (api.Fault{}) {
				t.Errorf("Load at %d, %d bytes: %d, %v", at, n, v, f)
			}
			if g, f := Store(h, at, n, 5); f != (api.Fault{}) || !equal(g, h) {
				t.Errorf("Store at %d, %d bytes: %v, %v", at, n, g, f)
			}
		}
	}
}

// P3.3, P3.5: each n at each place of a cell and over its border; nothing else changes.
func TestStore(t *testing.T) {
	const base, v = 3 * pageSize, 0xf1e2d3c4b5a69788
	old := mapped(t, 3, 3)
	for i := range 4 {
		old = stored(t, old, base+8*uint64(i), 8, 0x1111111111111111*uint64(i+1))
	}
	for at := uint64(base); at < base+16; at++ {
		for n := 1; n <= 8; n++ {
			h := stored(t, old, at, n, v)
			if !Fit(h) || len(h.Cells) != 4 || !slices.Equal(h.Maps, old.Maps) {
				t.Errorf("Store at %d, %d bytes: %v", at, n, h)
			}
			loads(t, h, at, n, v&(lastByte>>(64-8*n)))
			for a := uint64(base); a < base+40; a++ {
				want, _ := Load(old, a, 1)
				if a >= at && a < at+uint64(n) {
					want = v >> (8 * (a - at)) & 255
				}
				loads(t, h, a, 1, want)
			}
		}
	}
}

// P3.3: bytes that were 0 make cells where they stand; their order is kept.
func TestStoreMakesCells(t *testing.T) {
	h := mapped(t, 2, 3, 4)
	const base = 3 * pageSize
	for _, row := range []struct {
		at   uint64
		n    int
		v    uint64
		want []api.Cell
	}{
		{base + 16, 1, 0x1ff, []api.Cell{{At: base + 16, Word: 0xff}}},
		{base + 15, 1, 0x102, []api.Cell{{At: base + 8, Word: 2 << 56}, {At: base + 16, Word: 0xff}}},
		{base + 31, 2, 0x304, []api.Cell{{At: base + 8, Word: 2 << 56}, {At: base + 16, Word: 0xff}, {At: base + 24, Word: 4 << 56}, {At: base + 32, Word: 3}}},
		{base, 8, 7, []api.Cell{{At: base, Word: 7}, {At: base + 8, Word: 2 << 56}, {At: base + 16, Word: 0xff}, {At: base + 24, Word: 4 << 56}, {At: base + 32, Word: 3}}},
		{base + 12, 8, 0x0600000005000000, []api.Cell{{At: base, Word: 7}, {At: base + 8, Word: 5 << 56}, {At: base + 16, Word: 6 << 24}, {At: base + 24, Word: 4 << 56}, {At: base + 32, Word: 3}}},
		{base + pageSize - 1, 2, 0x908, []api.Cell{{At: base, Word: 7}, {At: base + 8, Word: 5 << 56}, {At: base + 16, Word: 6 << 24}, {At: base + 24, Word: 4 << 56}, {At: base + 32, Word: 3}, {At: base + pageSize - 8, Word: 8 << 56}, {At: base + pageSize, Word: 9}}},
	} {
		h = stored(t, h, row.at, row.n, row.v)
		is(t, "Store", h, api.Host{Maps: h.Maps, Cells: row.want})
	}
}

// P3.3, P3.5: a cell goes when all its bytes became 0, not ahead of that.
func TestStoreZero(t *testing.T) {
	const base = 3 * pageSize
	empty := mapped(t, 3, 3)
	full := stored(t, stored(t, empty, base, 8, lastByte), base+8, 8, lastByte)
	h := full
	for i := range uint64(8) {
		if len(h.Cells) != 2 {
			t.Errorf("ahead of byte %d: %v", i, h.Cells)
		}
		h = stored(t, h, base+i, 1, 0x100)
		loads(t, h, base, 8, lastByte<<(8*i)<<8)
	}
	is(t, "eight bytes of 0", h, api.Host{Maps: empty.Maps, Cells: []api.Cell{{At: base + 8, Word: lastByte}}})
	is(t, "a cell of 0", stored(t, full, base+8, 8, 0), api.Host{Maps: empty.Maps, Cells: []api.Cell{{At: base, Word: lastByte}}})
	is(t, "0 over a border", stored(t, full, base+4, 8, 0), api.Host{Maps: empty.Maps, Cells: []api.Cell{{At: base, Word: 0xffffffff}, {At: base + 8, Word: 0xffffffff00000000}}})
	one := stored(t, empty, base+7, 2, 0xffff)
	g := stored(t, one, base+7, 2, 0)
	is(t, "both cells go", g, empty)
	if g.Cells != nil {
		t.Errorf("no cells: %v", g.Cells)
	}
	is(t, "0 where nothing was", stored(t, empty, base+5, 8, 0), empty)
	is(t, "0 beside", stored(t, one, base+16, 8, 0), one)
	is(t, "the lower goes", stored(t, one, base+7, 1, 0), api.Host{Maps: empty.Maps, Cells: []api.Cell{{At: base + 8, Word: 255}}})
	is(t, "the upper goes", stored(t, one, base+8, 1, 0), api.Host{Maps: empty.Maps, Cells: []api.Cell{{At: base, Word: 255 << 56}}})
}

// P3.3: the first byte that may not, with its fault, for each n and over borders of pages.
func TestFaults(t *testing.T) {
	h := api.Host{Maps: []api.Map{{Page: 1, Prot: 7}, {Page: 2, Prot: 1}, {Page: 3, Prot: 2}, {Page: 4, Prot: 4}, {Page: 6, Prot: 3}, {Page: 7, Prot: 3}, {Page: 9, Prot: 0}, {Page: lastPage, Prot: 3}}}
	for _, m := range h.Maps {
		h.Cells = append(h.Cells, api.Cell{At: m.Page * pageSize, Word: m.Page + 1}, api.Cell{At: m.Page*pageSize + pageSize - 8, Word: lastByte})
	}
	if !Fit(h) {
		t.Fatal("not fit")
	}
	prots := map[uint64]int{}
	for _, m := range h.Maps {
		prots[m.Page] = m.Prot
	}
	first := func(at uint64, n, asked int) api.Fault {
		for i := range uint64(n) {
			prot, ok := prots[(at+i)/pageSize]
			if over := i > lastByte-at; !ok || over {
				return api.Fault{Kind: 1, At: at + i}
			}
			if prot&asked == 0 {
				return api.Fault{Kind: 2, At: at + i}
			}
		}
		return api.Fault{}
	}
	for page := range uint64(12) {
		for d := range uint64(18) {
			for n := 1; n <= 8; n++ {
				at := page*pageSize + d - 9 // ahead of page 0: the last addresses
				v, f := Load(h, at, n)
				if want := first(at, n, 1); f != want || f.Kind != 0 && v != 0 {
					t.Errorf("Load at %d, %d bytes: %d, %v; want %v", at, n, v, f, want)
				}
				g, f := Store(h, at, n, 0x0102030405060708)
				if want := first(at, n, 2); f != want || f.Kind != 0 && !equal(g, h) {
					t.Errorf("Store at %d, %d bytes: %v, %v; want %v", at, n, g, f, want)
				}
			}
		}
	}
	for _, row := range []struct {
		at   uint64
		n    int
		load api.Fault
		put  api.Fault
	}{
		{0, 1, api.Fault{Kind: api.FtThere, At: 0}, api.Fault{Kind: api.FtThere, At: 0}},
		{pageSize - 1, 2, api.Fault{Kind: api.FtThere, At: pageSize - 1}, api.Fault{Kind: api.FtThere, At: pageSize - 1}},
		{2*pageSize - 2, 4, api.Fault{}, api.Fault{Kind: api.FtRight, At: 2 * pageSize}},
		{3*pageSize - 2, 4, api.Fault{Kind: api.FtRight, At: 3 * pageSize}, api.Fault{Kind: api.FtRight, At: 3*pageSize - 2}},
		{4*pageSize - 7, 8, api.Fault{Kind: api.FtRight, At: 4*pageSize - 7}, api.Fault{Kind: api.FtRight, At: 4 * pageSize}},
		{5*pageSize - 1, 8, api.Fault{Kind: api.FtRight, At: 5*pageSize - 1}, api.Fault{Kind: api.FtRight, At: 5*pageSize - 1}},
		{7*pageSize - 4, 8, api.Fault{}, api.Fault{}},
		{8*pageSize - 4, 8, api.Fault{Kind: api.FtThere, At: 8 * pageSize}, api.Fault{Kind: api.FtThere, At: 8 * pageSize}},
		{9 * pageSize, 1, api.Fault{Kind: api.FtRight, At: 9 * pageSize}, api.Fault{Kind: api.FtRight, At: 9 * pageSize}},
	} {
		if _, f := Load(h, row.at, row.n); f != row.load {
			t.Errorf("Load at %d, %d bytes: %v; want %v", row.at, row.n, f, row.load)
		}
		if _, f := Store(h, row.at, row.n, 1); f != row.put {
			t.Errorf("Store at %d, %d bytes: %v; want %v", row.at, row.n, f, row.put)
		}
	}
	loads(t, h, 7*pageSize-4, 8, 8<<32|0xffffffff)
}

// P3.3: addresses at the end of 64 bits: what is behind them is no page's, though page 0 is mapped.
func TestLastAddress(t *testing.T) {
	h := stored(t, mapped(t, 3, 0, lastPage), 0, 8, 99)
	h = stored(t, h, lastByte-7, 8, 0x8877665544332211)
	for n := 1; n <= 8; n++ {
		at := uint64(lastByte) - uint64(n) + 1
		loads(t, h, at, n, 0x8877665544332211>>(64-8*n))
		g := stored(t, h, at, n, 0)
		loads(t, g, at, n, 0)
		if !Fit(g) {
			t.Errorf("%d bytes up to the last: not fit", n)
		}
		loads(t, g, 0, 8, 99)
		for over := range uint64(8) {
			at := at + 1 + over // goes over by one byte and more
			if at == 0 || at < lastByte-8 {
				break
			}
			want := api.Fault{Kind: api.FtThere, At: 0}
			if v, f := Load(h, at, n); v != 0 || f != want {
				t.Errorf("Load at %d, %d bytes: %d, %v", at, n, v, f)
			}
			if g, f := Store(h, at, n, 5); f != want || !equal(g, h) {
				t.Errorf("Store at %d, %d bytes: %v, %v", at, n, g, f)
			}
		}
	}
	low := mapped(t, 3, 0)
	want := api.Fault{Kind: api.FtThere, At: lastByte - 2}
	if v, f := Load(low, lastByte-2, 8); v != 0 || f != want {
		t.Errorf("Load where the last page is not mapped: %d, %v", v, f)
	}
	if g, f := Store(low, lastByte-2, 8, 5); f != want || !equal(g, low) {
		t.Errorf("Store where the last page is not mapped: %v, %v", g, f)
	}
}

// P3.4: Clear, of each beginning and end about two cells.
func TestClear(t *testing.T) {
	const base = 3 * pageSize
	h := mapped(t, 0, 3)
	for i := range uint64(5) {
		h.Cells = append(h.Cells, api.Cell{At: base + 8*i, Word: 0x0102030405060708 * (i + 1)})
	}
	for first := range uint64(20) {
		for n := range uint64(24) {
			g := Clear(h, base+first, n)
			want := api.Host{Maps: h.Maps}
			for _, c := range h.Cells {
				for i := range uint64(8) {
					if a := c.At + i - base; a >= first && a < first+n {
						c.Word &^= 255 << (8 * i)
					}
				}
				if c.Word != 0 {
					want.Cells = append(want.Cells, c)
				}
			}
			is(t, "Clear", g, want)
		}
	}
}

// P3.4: Clear over pages that are not mapped, of any rights, up to the last address and over it.
func TestClearFar(t *testing.T) {
	h := api.Host{Maps: []api.Map{{Page: 0, Prot: 0}, {Page: 3, Prot: 1}, {Page: 5, Prot: 7}, {Page: lastPage, Prot: 4}}}
	for _, m := range h.Maps {
		h.Cells = append(h.Cells, api.Cell{At: m.Page * pageSize, Word: lastByte}, api.Cell{At: m.Page*pageSize + pageSize - 8, Word: lastByte})
	}
	cells := func(places ...int) []api.Cell {
		var out []api.Cell
		for _, i := range places {
			out = append(out, h.Cells[i])
		}
		return out
	}
	for _, row := range []struct {
		at, n uint64
		want  []api.Cell
	}{
		{0, 0, h.Cells}, {5 * pageSize, 0, h.Cells}, {lastByte, 0, h.Cells},
		{pageSize, 2 * pageSize, h.Cells}, {6 * pageSize, 1 << 40, h.Cells},
		{0, lastByte, append(cells(), api.Cell{At: lastByte - 7, Word: 255 << 56})},
		{1, lastByte, []api.Cell{{At: 0, Word: 255}}}, {2, lastByte, []api.Cell{{At: 0, Word: 65535}}},
		{pageSize, lastByte, cells(0, 1)}, {pageSize, 3 * pageSize, cells(0, 1, 4, 5, 6, 7)}, {4 * pageSize, 1<<63 + 5, cells(0, 1, 2, 3, 6, 7)},
		{4 * pageSize, lastByte - 4*pageSize, append(cells(0, 1, 2, 3), api.Cell{At: lastByte - 7, Word: 255 << 56})},
		{4 * pageSize, lastByte - 4*pageSize + 1, cells(0, 1, 2, 3)}, {4 * pageSize, lastByte - 4*pageSize + 2, cells(0, 1, 2, 3)},
		{lastByte, 1, append(cells(0, 1, 2, 3, 4, 5, 6), api.Cell{At: lastByte - 7, Word: lastByte >> 8})},
		{lastByte, 2, append(cells(0, 1, 2, 3, 4, 5, 6), api.Cell{At: lastByte - 7, Word: lastByte >> 8})},
		{lastByte, lastByte, append(cells(0, 1, 2, 3, 4, 5, 6), api.Cell{At: lastByte - 7, Word: lastByte >> 8})},
		{lastByte - 3, 100, append(cells(0, 1, 2, 3, 4, 5, 6), api.Cell{At: lastByte - 7, Word: lastByte >> 32})},
		{lastByte - 3, 2, append(cells(0, 1, 2, 3, 4, 5, 6), api.Cell{At: lastByte - 7, Word: lastByte &^ (65535 << 32)})},
		{4*pageSize - 4, pageSize + 8, append(append(cells(0, 1, 2), api.Cell{At: 4*pageSize - 8, Word: lastByte >> 32}, api.Cell{At: 5 * pageSize, Word: 0xffffffff00000000}), cells(5, 6, 7)...)},
	} {
		is(t, "Clear", Clear(h, row.at, row.n), api.Host{Maps: h.Maps, Cells: row.want})
	}
	g := Clear(Clear(h, 0, lastByte), lastByte, 1)
	if is(t, "all", g, api.Host{Maps: h.Maps}); g.Cells != nil {
		t.Errorf("no cells: %v", g.Cells)
	}
	if g := Clear(api.Host{}, 0, lastByte); g.Maps != nil || g.Cells != nil {
		t.Errorf("Clear of nothing: %v", g)
	}
}

// P3.3: as many cells as may be: they are loaded and stored; one more is stored too, though the memory is not fit any more (Limits).
func TestMostCells(t *testing.T) {
	h := api.Host{Maps: pagesFrom(0, 33, 3), Cells: cellsFrom(0, mostCell)}
	loads(t, h, 8*(mostCell-1), 8, mostCell)
	g := stored(t, h, 8*1000, 8, 5)
	if !Fit(g) || len(g.Cells) != mostCell {
		t.Errorf("stored: %d cells, fit %v", len(g.Cells), Fit(g))
	}
	loads(t, g, 8*1000, 8, 5)
	g = stored(t, h, 8*mostCell, 8, 6)
	if Fit(g) {
		t.Error("one cell more: fit")
	}
	loads(t, g, 8*mostCell, 8, 6)
	g, e := Unmap(g, 32, 1)
	if e != api.OK || !equal(g, api.Host{Maps: pagesFrom(0, 32, 3), Cells: h.Cells}) {
		t.Error("the page of the last cell went, and not all is as it was")
	}
}
