package elf

import (
	"strings"

	"ferry/api"
	"ferry/swap"
)

const (
	headLen = 52 // bytes ahead of the segments
	segLen  = 32 // bytes of a segment
	most    = 16 // segments at most

	magic   = "\x7fELF\x01\x02\x01" + "\x00\x00\x00\x00\x00\x00\x00\x00\x00"
	fixed   = 2 // the type of a file that runs where it is
	shared  = 3 // the type of one that may lie anywhere
	machine = 8
	version = 1
	flags   = 0x70001000
)

// The numbers that all headers have, as they stand one behind the other: ahead of Entry, ahead of the number of segments, and behind it.
func atEntry() string { return halves(machine) + words(version) }
func atCount() string { return words(headLen, 0, flags) + halves(headLen, segLen) }
func atEnd() string   { return halves(0, 0, 0) }

// head is the bytes of a header ahead of its segments.
func head(e api.Elf) string {
	kind := uint32(fixed)
	if e.Shared {
		kind = shared
	}
	return magic + halves(kind) + atEntry() + words(e.Entry) + atCount() + halves(uint32(len(e.Segs))) + atEnd()
}

// segments is the bytes of a header's segments.
func segments(list []api.Seg) string {
	var out strings.Builder
	for _, s := range list {
		out.WriteString(words(uint32(s.Kind), s.Off, s.At, s.At, s.Size, s.Room, uint32(Prots(uint32(s.Prot))), s.Align))
	}
	return out.String()
}

// halves is numbers of two bytes each.
func halves(all ...uint32) string { return numbers(2, all) }

// words is numbers of four bytes each.
func words(all ...uint32) string { return numbers(4, all) }

// numbers is numbers of n bytes each, their highest byte first.
func numbers(n int, all []uint32) string {
	var out strings.Builder
	for _, v := range all {
		out.WriteString(swap.PutBe(uint64(v), n))
	}
	return out.String()
}
