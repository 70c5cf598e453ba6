package dyn

import (
	"slices"

	"ferry/api"
	"ferry/names"
)

const (
	symLen     = 16
	kindsOfSym = 256 // a relocation's symbol stands above its kind

	mostCount = api.MaxSyms + 1 // symbols, 0's too
	mostStrs  = 4096
	mostWays  = 64
	mostRels  = 480 // bytes
	leastOwn  = 2
	mostOwn   = 32
)

// dyn is the table. The relocations' kinds are asked last, as all that is not of its form goes ahead.
func (r reader) dyn() api.Dyn {
	t := r.tags()
	d := api.Dyn{Table: r.symbols(t), Init: t.values[tgInit]}
	var err api.Errno
	d.Syms, err = names.Read(d.Table)
	must(err == api.OK)
	for _, at := range t.needed {
		d.Needed = append(d.Needed, text(d.Table.Strs, at))
	}
	if t.areThere(tgSoname) {
		d.Soname = text(d.Table.Strs, t.values[tgSoname])
	}
	got, own, first := r.places(t)
	d.Got, d.Own, d.First = got, int(own), int(first)
	d.Rels = r.relocations(t)
	if slices.ContainsFunc(d.Rels, isNoKind) {
		panic(api.ErrReloc)
	}
	return d
}

// tags is the tags up to the first that ends the table.
func (r reader) tags() tags {
	t := tags{values: map[uint32]uint32{}}
	for _, p := range r.pairs(r.image.DynAt, r.image.DynLen) {
		if p.first == tgEnd {
			return t
		}
		t.add(p.first, p.second)
	}
	panic(api.ErrForm)
}

// symbols is the table of symbols.
func (r reader) symbols(t tags) api.Table {
	must(t.areThere(tgHash, tgStrs, tgSyms, tgStrsLen, tgCount))
	count, size := t.values[tgCount], t.values[tgStrsLen]
	must(isFrom(1, count, mostCount) && size <= mostStrs)
	return api.Table{
		Syms: r.bytes(t.values[tgSyms], symLen*count),
		Strs: r.bytes(t.values[tgStrs], size),
		Hash: r.hash(t.values[tgHash], count),
	}
}

// hash is the bytes by which so many symbols are looked for. How many bytes there are, the first two numbers tell.
func (r reader) hash(at, count uint32) string {
	begin := pairOf(r.bytes(at, pairLen))
	must(isFrom(1, begin.first, mostWays) && begin.second == count)
	return r.bytes(at, pairLen+wordLen*(begin.first+count))
}

// places is where the table of places is, how many of these are its own, and the first symbol that has one there; all 0, if there is none.
func (r reader) places(t tags) (at, own, first uint32) {
	if !t.areThere(tgGot, tgOwn, tgFirst) {
		return 0, 0, 0
	}
	at, own, first = t.values[tgGot], t.values[tgOwn], t.values[tgFirst]
	count := t.values[tgCount]
	must(isFrom(leastOwn, own, mostOwn) && isFrom(1, first, count))
	r.bytes(at, wordLen*(own+count-first)) // what they are is not told, but they must be there
	return at, own, first
}

// relocations is the relocations, of whatever kind.
func (r reader) relocations(t tags) []api.Rel {
	if !t.areThere(tgRels, tgRelsLen) {
		return nil
	}
	must(t.values[tgRelsLen] <= mostRels)
	var list []api.Rel
	for _, p := range r.pairs(t.values[tgRels], t.values[tgRelsLen]) {
		sym := p.second / kindsOfSym
		must(sym < t.values[tgCount])
		list = append(list, api.Rel{At: p.first, Kind: int(p.second % kindsOfSym), Sym: int(sym)})
	}
	return list
}

// isNoKind tells whether a relocation's kind is none.
func isNoKind(r api.Rel) bool { return r.Kind != api.RlNothing && r.Kind != api.RlRel32 }
