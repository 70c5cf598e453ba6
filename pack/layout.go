package pack

import (
	"ferry/api"
	"ferry/elf"
	"ferry/names"
	"ferry/swap"
)

// The parts of a file, in order.
const (
	header = iota // the first part in memory begins with it
	interp
	tags
	hash
	syms
	strs
	rels
	code // the first part in memory ends with it
	got  // the second one begins with it
	data
	parts // how many there are
)

const (
	step      = 8    // each part begins at a multiple of it
	apart     = 4096 // how much further the second part is in memory than in the file
	ways      = 3    // to look for names
	alignTags = 4    // of the linking table
	alignName = 1    // of who loads it
)

// layout is a library whose parts have their places in the file.
type layout struct {
	api.Lib
	at   [parts]uint32
	size [parts]uint32
}

// lay is a library with its parts' places. A part's length hangs on no place: so it is that of the part that is made while all of these are 0.
func lay(l api.Lib) layout {
	y := layout{Lib: l}
	sizes := y.texts()
	var end uint32
	for p := range parts {
		y.at[p], _ = swap.Up(end, step) // never too great: a fit library's file is small
		y.size[p] = uint32(len(sizes[p]))
		end = y.at[p] + y.size[p]
	}
	return y
}

// texts is each part's bytes.
func (y *layout) texts() [parts]string {
	table := names.Write(y.placed(), ways)
	texts, places := y.named(table.Strs)
	return [parts]string{
		header: elf.Write(y.head()),
		interp: y.loader(),
		tags:   y.linking(places),
		hash:   table.Hash,
		syms:   table.Syms,
		strs:   texts,
		rels:   y.relocations(),
		code:   y.Code,
		got:    y.places(),
		data:   y.Data,
	}
}

// address is where a part is in memory.
func (y *layout) address(part int) uint32 {
	at := y.Base + y.at[part]
	if part >= got {
		at += apart
	}
	return at
}

// head is the file's header.
func (y *layout) head() api.Elf {
	segs := []api.Seg{
		y.segment(api.SgLoad, header, code, api.PrRead|api.PrExec, api.GuestPage),
		y.second(),
		y.segment(api.SgDyn, tags, tags, api.PrRead|api.PrWrite, alignTags),
	}
	if y.Interp != "" {
		segs = append(segs, y.segment(api.SgInterp, interp, interp, api.PrRead, alignName))
	}
	return api.Elf{Shared: y.Shared, Entry: y.address(code) + y.Entry, Segs: segs}
}

// second is the segment of what may be written.
func (y *layout) second() api.Seg {
	s := y.segment(api.SgLoad, got, data, api.PrRead|api.PrWrite, api.GuestPage)
	s.Room += y.Bss
	return s
}

// segment is one of all parts from first to last.
func (y *layout) segment(kind, first, last, prot int, align uint32) api.Seg {
	size := y.at[last] + y.size[last] - y.at[first]
	return api.Seg{Kind: kind, Off: y.at[first], At: y.address(first), Size: size, Room: size, Prot: prot, Align: align}
}
