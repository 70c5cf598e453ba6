package pack

import (
	"slices"
	"strings"

	"ferry/api"
	"ferry/swap"
)

// Tags of the linking table.
const (
	tgEnd     = 0
	tgNeeded  = 1
	tgGot     = 3
	tgHash    = 4
	tgStrs    = 5
	tgSyms    = 6
	tgStrsLen = 10
	tgSymLen  = 11
	tgInit    = 12
	tgSoname  = 14
	tgRels    = 17
	tgRelsLen = 18
	tgRelLen  = 19
	tgOwn     = 0x7000000a
	tgCount   = 0x70000011
	tgFirst   = 0x70000013
)

const (
	symLen = 16
	relLen = 8

	ownFirst   = 2       // places of the table that are its own, whatever the library has
	ownSecond  = 1 << 31 // what stands in the second of these
	kindsOfSym = 256     // a relocation's symbol stands above its kind
)

// words is numbers of 4 bytes each, the highest byte first.
func words(all ...uint32) string {
	var out strings.Builder
	for _, v := range all {
		out.WriteString(swap.PutBe(uint64(v), 4))
	}
	return out.String()
}

// loader is the text of who loads it.
func (y *layout) loader() string {
	if y.Interp == "" {
		return ""
	}
	return y.Interp + "\x00"
}

// named is the texts with those of Needed and Soname behind them, and where each of these stands, Soname last.
func (y *layout) named(texts string) (string, []uint32) {
	var places []uint32
	for _, name := range slices.Concat(y.Needed, []string{y.Soname}) {
		places = append(places, uint32(len(texts)))
		texts += name + "\x00"
	}
	return texts, places
}

// linking is the linking table; places are those that named tells.
func (y *layout) linking(places []uint32) string {
	var out strings.Builder
	for n := range len(y.Needed) {
		out.WriteString(words(tgNeeded, places[n]))
	}
	if y.Soname != "" {
		out.WriteString(words(tgSoname, places[len(y.Needed)]))
	}
	out.WriteString(words(tgHash, y.address(hash), tgStrs, y.address(strs), tgSyms, y.address(syms), tgRels, y.address(rels)))
	out.WriteString(words(tgStrsLen, y.size[strs], tgRelsLen, y.size[rels], tgSymLen, symLen, tgRelLen, relLen))
	if y.Init > 0 {
		out.WriteString(words(tgInit, y.address(code)+y.Init-1))
	}
	count := uint32(len(y.Syms) + 1)
	out.WriteString(words(tgGot, y.address(got), tgOwn, uint32(ownFirst+len(y.Local)), tgCount, count, tgFirst, count-uint32(y.Global)))
	out.WriteString(words(tgEnd, 0))
	return out.String()
}

// placed is the symbols with their addresses.
func (y *layout) placed() []api.Sym {
	out := slices.Clone(y.Syms)
	for i, s := range out {
		out[i].Value = y.symbol(s)
	}
	return out
}

// symbol is a symbol's address.
func (y *layout) symbol(s api.Sym) uint32 {
	switch s.Part {
	case api.PtCode:
		return y.address(code) + s.Value
	case api.PtData:
		return y.address(data) + s.Value
	}
	return 0
}

// relocations is the relocations' bytes.
func (y *layout) relocations() string {
	var out strings.Builder
	for _, r := range y.Rels {
		out.WriteString(words(y.address(data)+r.At, uint32(r.Sym*kindsOfSym+r.Kind)))
	}
	return out.String()
}

// places is the table of places.
func (y *layout) places() string {
	all := []uint32{0, ownSecond}
	for _, at := range y.Local {
		all = append(all, y.address(code)+at)
	}
	for _, s := range y.Syms[len(y.Syms)-y.Global:] {
		all = append(all, y.symbol(s))
	}
	return words(all...)
}
