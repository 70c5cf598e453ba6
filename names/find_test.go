package names

import (
	"slices"
	"strings"
	"testing"

	"ferry/api"
)

// words is numbers of four bytes each.
func words(all ...uint32) string {
	var out []byte
	for _, v := range all {
		out = append(out, byte(v>>24), byte(v>>16), byte(v>>8), byte(v))
	}
	return string(out)
}

// finds fails unless Find tells that place.
func finds(t *testing.T, what string, table api.Table, name string, want int) {
	t.Helper()
	if at, ok := Find(table, name); at != want || !ok {
		t.Errorf("%s: Find(%q) is %d, %v, and not %d", what, name, at, ok, want)
	}
}

// lacks fails unless Find tells that there is none.
func lacks(t *testing.T, what string, table api.Table, name string) {
	t.Helper()
	if at, ok := Find(table, name); at != 0 || ok {
		t.Errorf("%s: Find(%q) is %d, %v, and should be none", what, name, at, ok)
	}
}

// P15.4: the chapter's example, and names that are there, and not.
func TestFind(t *testing.T) {
	for ways := 1; ways <= 64; ways++ {
		table := Write(globals("main", "puts", "exit"), ways)
		finds(t, "the first", table, "main", 0)
		finds(t, "the second", table, "puts", 1)
		finds(t, "the last", table, "exit", 2)
		for _, name := range []string{"", "put", "putsx", "Main", "main\x00", "\x00main", "none", strings.Repeat("x", 65536)} {
			lacks(t, "not there", table, name)
		}
		lacks(t, "no symbols", Write(nil, ways), "main")
		lacks(t, "no symbols", Write(nil, ways), "")
	}
}

// P15.4: names of the same number are told apart by their bytes.
func TestFindSameNumber(t *testing.T) {
	if Hash("ab") != Hash("bR") {
		t.Fatalf("%#x and %#x", Hash("ab"), Hash("bR"))
	}
	table := Write(globals("ab", "bR"), 64)
	finds(t, "the first", table, "ab", 0)
	finds(t, "the second", table, "bR", 1)
	lacks(t, "the second alone", Write(globals("bR"), 64), "ab")
}

// P15.4: the first symbol of a name that is there for others.
func TestFindForOthers(t *testing.T) {
	name := func(bind, part int) api.Sym { return api.Sym{Name: "x", Bind: bind, Part: part} }
	for bind := range 3 {
		for part := range 3 {
			alone := []api.Sym{global("y"), name(bind, part)}
			again := append(slices.Clone(alone), global("z"), global("x"), global("x"))
			for _, ways := range []int{1, 2, 3, 64} {
				if bind == api.SyLocal || part == api.PtNone {
					lacks(t, "not for others", Write(alone, ways), "x")
					finds(t, "not for others, then once more", Write(again, ways), "x", 3)
					continue
				}
				finds(t, "for others", Write(alone, ways), "x", 1)
				finds(t, "twice", Write(again, ways), "x", 1)
			}
		}
	}
}

// hashed is a table of main, puts and exit (1 to 3) with a Hash of these numbers.
func hashed(all ...uint32) api.Table {
	table := Write(globals("main", "puts", "exit"), 1)
	table.Hash = words(all...)
	return table
}

// P15.4: a Hash that leads nowhere.
func TestFindNowhere(t *testing.T) {
	lacks(t, "empty", hashed(), "main")
	lacks(t, "0 ways", hashed(0, 4, 1, 0, 2, 3, 0), "main")
	lacks(t, "0 ways", hashed(0, 4, 0, 1, 2, 3, 0), "main")
	lacks(t, "the first symbol is 0", hashed(1, 4, 0, 1, 2, 3, 0), "main")
	lacks(t, "the next one is 0", hashed(1, 4, 1, 0, 0, 3, 0), "puts")
	finds(t, "ahead of that", hashed(1, 4, 1, 0, 0, 3, 0), "main", 0)
	for _, none := range []uint32{4, 5, 201, 1 << 31, 0xffffffff} {
		lacks(t, "a first symbol that is not there", hashed(1, 4, none, 0, 2, 3, 0, 1, 1), "main")
		lacks(t, "a next one that is not there", hashed(1, 4, 1, 0, none, 3, 0, 2, 2), "puts")
		finds(t, "ahead of that", hashed(1, 4, 1, 0, none, 3, 0, 2, 2), "main", 0)
	}
	whole := hashed(1, 4, 1, 0, 2, 3, 0)
	for n := range len(whole.Hash) + 1 { // main is found at the first number behind two, puts and exit by one and by two more
		short := whole
		short.Hash = whole.Hash[:n]
		for i, name := range []string{"main", "puts", "exit"} {
			if n >= []int{12, 20, 24}[i] {
				finds(t, "long enough", short, name, i)
			} else {
				lacks(t, "too short", short, name)
			}
		}
	}
}

// P15.4: a Hash that goes round in a circle; what is on it is found.
func TestFindCircle(t *testing.T) {
	alone := hashed(1, 4, 1, 0, 1, 3, 0)
	finds(t, "by itself", alone, "main", 0)
	lacks(t, "by itself", alone, "puts")
	both := hashed(1, 4, 2, 0, 2, 1, 0)
	finds(t, "of two", both, "puts", 1)
	finds(t, "of two", both, "main", 0)
	lacks(t, "of two", both, "exit")
	all := hashed(1, 4, 3, 0, 2, 3, 1)
	for i, name := range []string{"main", "puts", "exit"} {
		finds(t, "of all", all, name, i)
	}
	lacks(t, "of all", all, "none")
}

// P15.4: the last symbol of a way of all 200 is within the steps.
func TestFindLast(t *testing.T) {
	l := many(200)
	table := Write(l, 1)
	for i, s := range l {
		finds(t, "one way", table, s.Name, i)
	}
	turned := slices.Concat([]uint32{1, 201, 200, 0}, make([]uint32, 200))
	for i := range 200 {
		turned[4+i] = uint32(i) // the next one of each is the one ahead of it
	}
	table.Hash = words(turned...)
	for i, s := range l {
		finds(t, "one way, downwards", table, s.Name, i)
	}
}

// P15.4: Hash's order is gone by, and its ways, whatever they are; how many symbols it tells is not asked.
func TestFindByHash(t *testing.T) {
	table := Write(globals("x", "x"), 1)
	table.Hash = words(1, 3, 2, 0, 0, 1)
	finds(t, "a way that falls", table, "x", 1)
	table.Hash = words(1, 0, 1, 0, 0, 0)
	finds(t, "another number of symbols", table, "x", 0)
	h := Hash("x")
	wide := make([]uint32, 2+200+3)
	wide[0], wide[2+h] = 200, 2
	table.Hash = words(wide...)
	finds(t, "more ways than 64", table, "x", 1)
	wide[0] = 0xffffffff
	table.Hash = words(wide...)
	finds(t, "more ways than there are numbers", table, "x", 1)
	wide[2+h] = 3
	table.Hash = words(wide...)
	lacks(t, "more ways than there are numbers", table, "x")
	table.Syms = put(table.Syms, 28, "\x00") // the symbol 1 is local
	wide[2+h] = 1
	table.Hash = words(wide...)
	lacks(t, "the next one's number is far away", table, "x")
	wrong := Write(globals("x"), 2)
	wrong.Hash = words(2, 2, 0, 1, 0, 0)
	lacks(t, "another way", wrong, "x")
}

// P15.4: nothing is found in a table that Read refuses, though Hash and the symbol's own row are as they should be.
func TestFindRefused(t *testing.T) {
	good := Write(globals("main", "puts"), 1)
	finds(t, "as it was", good, "main", 0)
	bad := good
	bad.Syms = put(good.Syms, 32+13, "\x01")
	lacks(t, "another symbol's row is none", bad, "main")
	bad.Syms = good.Syms + "\x00"
	lacks(t, "a byte more", bad, "main")
	bad.Syms = put(good.Syms, 15, "\x01")
	lacks(t, "the symbol 0", bad, "main")
}
