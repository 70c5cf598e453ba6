package image

import (
	"slices"

	"ferry/api"
	"ferry/gmem"
	"ferry/guest"
)

// loader puts an image into the space that it embeds, and that is its own, with all addresses moved.
type loader struct {
	api.Space
	moved uint32
}

// load puts an image there. With an error, some of its segments may be there already.
func (l *loader) load(m api.Image, s string) api.Errno {
	if !l.mayMove(m) {
		return api.ErrInval
	}
	for g := range segments(m.Elf, api.SgLoad) {
		if l.isTaken(l.pages(g)) {
			return api.ErrMem
		}
	}
	for g := range segments(m.Elf, api.SgLoad) {
		if e := l.add(g, s); e != api.OK {
			return e
		}
	}
	return api.OK
}

// mayMove tells whether an image may be moved so far.
func (l *loader) mayMove(m api.Image) bool {
	if l.moved%api.GuestPage != 0 || l.moved != 0 && !m.Elf.Shared {
		return false
	}
	low := m.Low + l.moved
	return low >= api.GuestPage && isWithin(low, m.High-m.Low, 0, api.Top)
}

// pages is where a segment's pages are moved.
func (l *loader) pages(g api.Seg) stretch { return pagesOf(g.At+l.moved, g.Room) }

// isTaken tells whether one of some pages is mapped.
func (l *loader) isTaken(asked stretch) bool {
	return slices.ContainsFunc(l.Guest.Pages, func(p api.Page) bool { return p.N >= asked.first && p.N < asked.behind })
}

// add maps a segment's pages, and lays its bytes there: those that the file does not have are 0 already.
func (l *loader) add(g api.Seg, s string) (e api.Errno) {
	p := l.pages(g)
	l.Guest, e = guest.Map(l.Guest, p.first, p.behind-p.first, g.Prot)
	if e == api.OK {
		l.Guest, _ = gmem.Poke(l.Guest, g.At+l.moved, inFile(g, s)) // without a fault: all pages are there, and a file has fewer bytes than are put at once
	}
	return e
}
