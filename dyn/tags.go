package dyn

// Tags of the table.
const (
	tgEnd     = 0
	tgNeeded  = 1
	tgGot     = 3
	tgHash    = 4
	tgStrs    = 5
	tgSyms    = 6
	tgStrsLen = 10
	tgInit    = 12
	tgSoname  = 14
	tgRels    = 17
	tgRelsLen = 18
	tgOwn     = 0x7000000a
	tgCount   = 0x70000011
	tgFirst   = 0x70000013
)

// tags is what stands in a table: the value of each tag that stands once at most, and those of Needed, in order.
type tags struct {
	values map[uint32]uint32
	needed []uint32
}

// add takes a tag that does not end the table; one that nobody asks for is passed over.
func (t *tags) add(tag, value uint32) {
	switch tag {
	case tgNeeded:
		t.needed = append(t.needed, value)
	case tgGot, tgHash, tgStrs, tgSyms, tgStrsLen, tgInit, tgSoname, tgRels, tgRelsLen, tgOwn, tgCount, tgFirst:
		must(!t.areThere(tag))
		t.values[tag] = value
	}
}

// areThere tells whether some tags are there, which must all be, or none.
func (t *tags) areThere(asked ...uint32) bool {
	found := 0
	for _, tag := range asked {
		if _, is := t.values[tag]; is {
			found++
		}
	}
	must(found == 0 || found == len(asked))
	return found > 0
}
