package fresh

import (
	"slices"
	"testing"

	"ferry/api"
)

func sample() api.Guest {
	return api.Guest{
		Host: api.Host{
			Maps:  append(make([]api.Map, 0, 9), api.Map{Page: 1, Prot: 3}, api.Map{Page: 2, Prot: 3}),
			Cells: append(make([]api.Cell, 0, 9), api.Cell{At: 16384, Word: 7}),
		},
		Base:  16384,
		Pages: append(make([]api.Page, 0, 9), api.Page{N: 0, Prot: 1}, api.Page{N: 4, Prot: 7}),
	}
}

func equal(a, b api.Guest) bool {
	return a.Base == b.Base && slices.Equal(a.Pages, b.Pages) &&
		slices.Equal(a.Host.Maps, b.Host.Maps) && slices.Equal(a.Host.Cells, b.Host.Cells)
}

// scribble changes all that a memory's lists have room for.
func scribble(g api.Guest) {
	clear(g.Host.Maps[:cap(g.Host.Maps)])
	clear(g.Host.Cells[:cap(g.Host.Cells)])
	clear(g.Pages[:cap(g.Pages)])
}

// 0.5: what is made is the same, and stays so when that changes which it is made of; and the other way about.
func TestOwnMemory(t *testing.T) {
	given := sample()
	scribble(Guest(given))
	scribble(api.Guest{Host: Host(given.Host)})
	scribble(Space(api.Space{Guest: given}).Guest)
	if !equal(given, sample()) {
		t.Errorf("what was given changed: %v", given)
	}
	g, h := Guest(given), Host(given.Host)
	s := Space(api.Space{Guest: given, Start: 4096, End: 4097})
	scribble(given)
	if !equal(s.Guest, sample()) || s.Start != 4096 || s.End != 4097 {
		t.Errorf("Space: %v", s)
	}
	if !equal(g, sample()) {
		t.Errorf("Guest: %v", g)
	}
	if g.Host = h; !equal(g, sample()) {
		t.Errorf("Host: %v", h)
	}
}

// 0.7: an empty list is none.
func TestEmptyLists(t *testing.T) {
	g := Guest(api.Guest{Host: api.Host{Maps: []api.Map{}, Cells: []api.Cell{}}, Pages: []api.Page{}})
	if g.Host.Maps != nil || g.Host.Cells != nil || g.Pages != nil {
		t.Errorf("lists that are not nil: %v", g)
	}
}
