package image

import (
	"iter"
	"strings"

	"ferry/api"
)

const (
	places    = 1 << 20 // pages that the guest's addresses have
	mostPages = api.MaxImage / api.GuestPage
	leastName = 2 // bytes of SgInterp, the byte 0 among them
	mostName  = 256
	rowBytes  = 8 // of the table for linking
)

// segments hands out a header's segments of a kind, in order.
func segments(e api.Elf, kind int) iter.Seq[api.Seg] {
	return func(yield func(api.Seg) bool) {
		for _, g := range e.Segs {
			if g.Kind == kind && !yield(g) {
				return
			}
		}
	}
}

// only is the segment of a kind, a zero one, if there is none; false: there are several.
func only(e api.Elf, kind int) (found api.Seg, ok bool) {
	n := 0
	for g := range segments(e, kind) {
		found = g
		n++
	}
	return found, n <= 1
}

// stretch is pages in a row, from first up to behind.
type stretch struct{ first, behind uint32 }

// pagesOf is the pages in which bytes are, n of them, above 0. The last byte is asked, since the end of all may be one that 32 bits don't tell.
func pagesOf(at, n uint32) stretch {
	return stretch{at / api.GuestPage, (at+n-1)/api.GuestPage + 1}
}

// extent is the pages from the first SgLoad's first up to the last one's last; false: these SgLoads are no image's.
func extent(e api.Elf) (all stretch, ok bool) {
	for g := range segments(e, api.SgLoad) {
		p := pagesOf(g.At, g.Room)
		if g.Room == 0 || p.first < all.behind {
			return stretch{}, false
		}
		if all.behind == 0 { // the first one: behind a page is at least 1
			all.first = p.first
		}
		all.behind = p.behind
	}
	return all, all.behind != 0 && all.behind < places && all.behind-all.first <= mostPages
}

// interp is who loads a file, "", if it tells nobody; false: what it tells can't be.
func interp(e api.Elf, s string) (string, bool) {
	g, ok := only(e, api.SgInterp)
	if !ok || g.Kind != api.SgInterp {
		return "", ok
	}
	name, behind, ended := strings.Cut(inFile(g, s), "\x00")
	return name, ended && behind == "" && g.Size >= leastName && g.Size <= mostName
}

// table is the segment of the table for linking, a zero one, if there is none; false: it can't be.
func table(e api.Elf) (api.Seg, bool) {
	dyn, ok := only(e, api.SgDyn)
	if !ok || dyn.Kind != api.SgDyn {
		return api.Seg{}, ok
	}
	if dyn.Size == 0 || dyn.Size%rowBytes != 0 {
		return api.Seg{}, false
	}
	for g := range segments(e, api.SgLoad) {
		if isWithin(dyn.At, dyn.Size, g.At, g.Size) {
			return dyn, true
		}
	}
	return api.Seg{}, false
}

// inFile is a segment's bytes that the file has. No file is too short for a header that it was parsed of, but any other may be.
func inFile(g api.Seg, s string) string {
	rest := s[min(uint64(g.Off), uint64(len(s))):]
	return rest[:min(uint64(g.Size), uint64(len(rest)))]
}

// isWithin tells whether n bytes from at on are among those from first on, room of them. There is no sum, which could go over.
func isWithin(at, n, first, room uint32) bool {
	return at >= first && at-first <= room && n <= room-(at-first)
}
