package wide

import (
	"math"
	"strings"
	"testing"
)

const (
	most  = 1<<31 - 1 // the greatest number with a sign
	least = 1 << 31   // the least one, as bits
	minus = 1<<32 - 1 // -1, as bits
)

// chapter is the names of P10.1.
const chapter = "mult multu div divu madd maddu msub msubu mthi mtlo"

// others is names of instructions that make no Hi and Lo.
const others = `add addu addiu sub subu mul mfhi mflo movz movn sll srl sra syscall break teq j jal jr beq bne
lui ext ins clz clo lb lw lwl lwr sb sw swl swr ll sc rdhwr`

// notNames are names that are none.
func notNames() []string {
	return []string{"", " ", "Mult", "MULT", "mult ", " mult", "mul", "mul\x00", "mult\x00", "multuu", "multi", "di", "divi", "ddiv", "mad", "madd.u", "msubuu", "mthii", "mtl",
		"mult multu", "mult $1, $2", "hi", "lo", "\xff", chapter, strings.Repeat("mult", 1<<14)}
}

// makes holds that an instruction makes Hi and Lo.
func makes(t *testing.T, name string, s, r, hi, lo, wantHi, wantLo uint32) {
	t.Helper()
	if h, l := Do(name, s, r, hi, lo); h != wantHi || l != wantLo {
		t.Errorf("Do(%.20q, %#x, %#x, %#x, %#x): %#x, %#x; want %#x, %#x", name, s, r, hi, lo, h, l, wantHi, wantLo)
	}
}

// makesAnew holds that an instruction makes Hi and Lo, whatever they were.
func makesAnew(t *testing.T, name string, s, r, wantHi, wantLo uint32) {
	t.Helper()
	for _, old := range [][2]uint32{{0, 0}, {minus, minus}, {0x01234567, 0x89abcdef}} {
		makes(t, name, s, r, old[0], old[1], wantHi, wantLo)
	}
}

// P10.2, P10.3: the chapter's examples.
func TestExamples(t *testing.T) {
	makes(t, "mult", 1<<32-1, 2, 0, 0, 1<<32-1, 1<<32-2)
	makes(t, "div", 1<<32-7, 2, 0, 0, 1<<32-1, 1<<32-3)
	if got := LoadLeft(0, 0x11223344, 1); got != 0x22334400 {
		t.Errorf("LoadLeft: %#x", got)
	}
}

// P10.1: all names of the promise, no other instruction's, and none that is no name.
func TestKnown(t *testing.T) {
	known := strings.Fields(chapter)
	if len(known) != 10 {
		t.Fatalf("the test's own names: %d", len(known))
	}
	for _, name := range known {
		if !Known(name) {
			t.Errorf("Known(%s) is false", name)
		}
	}
	for _, name := range append(strings.Fields(others), notNames()...) {
		if Known(name) {
			t.Errorf("Known(%.20q) is true", name)
		}
	}
}

// P10.2: of a name that is not Known Hi and Lo are left.
func TestDoOfUnknown(t *testing.T) {
	for _, name := range append(strings.Fields(others), notNames()...) {
		for _, hi := range []uint32{0, 1, least, minus} {
			for _, lo := range []uint32{0, 2, most, minus} {
				makes(t, name, 5, 3, hi, lo, hi, lo)
				makes(t, name, minus, 0, hi, lo, hi, lo)
			}
		}
	}
}

// P10.2: mult and multu of any two of the edges, whichever comes first.
func TestMult(t *testing.T) {
	for _, row := range []struct{ s, t, hi, lo, uhi, ulo uint32 }{
		{0, 0, 0, 0, 0, 0}, {0, 1, 0, 0, 0, 0}, {0, most, 0, 0, 0, 0}, {0, least, 0, 0, 0, 0}, {0, minus, 0, 0, 0, 0},
		{1, 1, 0, 1, 0, 1}, {1, most, 0, most, 0, most}, {1, least, minus, least, 0, least}, {1, minus, minus, minus, 0, minus},
		{most, most, 0x3fffffff, 1, 0x3fffffff, 1},
		{most, least, 0xc0000000, 0x80000000, 0x3fffffff, 0x80000000},
		{most, minus, 0xffffffff, 0x80000001, 0x7ffffffe, 0x80000001},
		{least, least, 0x40000000, 0, 0x40000000, 0},
		{least, minus, 0, 0x80000000, 0x7fffffff, 0x80000000},
		{minus, minus, 0, 1, 0xfffffffe, 1},
		{65536, 65536, 1, 0, 1, 0}, {3, minus - 4, minus, minus - 14, 2, minus - 14}, {0x12345678, 0x9abcdef0, 0xf8cc93d6, 0x242d2080, 0x0b00ea4e, 0x242d2080},
	} {
		makesAnew(t, "mult", row.s, row.t, row.hi, row.lo)
		makesAnew(t, "mult", row.t, row.s, row.hi, row.lo)
		makesAnew(t, "multu", row.s, row.t, row.uhi, row.ulo)
		makesAnew(t, "multu", row.t, row.s, row.uhi, row.ulo)
	}
}

// P10.2: madd and maddu, where the low half carries over into the high one, and where all goes past 2^64 or, by a product below 0, below 0.
func TestMadd(t *testing.T) {
	for _, row := range []struct{ s, t, hi, lo, wantHi, wantLo, uhi, ulo uint32 }{
		{2, 3, 0, 0, 0, 6, 0, 6}, {2, 3, 5, 7, 5, 13, 5, 13}, {0, minus, 5, 7, 5, 7, 5, 7},
		{1, 1, 0, minus, 1, 0, 1, 0}, {1, 1, 4, minus, 5, 0, 5, 0}, {65536, 65535, 4, 65536, 5, 0, 5, 0},
		{1, 1, most, minus, least, 0, least, 0},
		{1, 1, minus, minus, 0, 0, 0, 0}, {2, 3, minus, minus - 1, 0, 4, 0, 4}, {most, most, 0xc0000000, minus, 0, 0, 0, 0},
		{1, minus, 0, 0, minus, minus, 0, minus}, {1, minus, 5, 0, 4, minus, 5, minus}, {1, minus, 5, 1, 5, 0, 6, 0}, {minus, 1, 0, 1, 0, 0, 1, 0},
		{minus, minus, 0, 0, 0, 1, 0xfffffffe, 1}, {minus, minus, 2, 5, 2, 6, 0, 6}, {minus, minus, 1, minus, 2, 0, 0, 0},
		{least, least, 0xc0000000, 0, 0, 0, 0, 0}, {least, most, 0, 0, 0xc0000000, 0x80000000, 0x3fffffff, 0x80000000},
	} {
		makes(t, "madd", row.s, row.t, row.hi, row.lo, row.wantHi, row.wantLo)
		makes(t, "maddu", row.s, row.t, row.hi, row.lo, row.uhi, row.ulo)
	}
}

// P10.2: msub and msubu, where the low half takes from the high one, and where all goes below 0 or, by a product below 0, past 2^64.
func TestMsub(t *testing.T) {
	for _, row := range []struct{ s, t, hi, lo, wantHi, wantLo, uhi, ulo uint32 }{
		{2, 3, 0, 6, 0, 0, 0, 0}, {2, 3, 5, 13, 5, 7, 5, 7}, {0, minus, 5, 7, 5, 7, 5, 7},
		{1, 1, 1, 0, 0, minus, 0, minus}, {1, 1, 5, 0, 4, minus, 4, minus}, {65536, 65535, 5, 0, 4, 65536, 4, 65536},
		{1, 1, least, 0, most, minus, most, minus},
		{1, 1, 0, 0, minus, minus, minus, minus}, {2, 3, 0, 4, minus, minus - 1, minus, minus - 1}, {most, most, 0, 0, 0xc0000000, minus, 0xc0000000, minus},
		{1, minus, minus, minus, 0, 0, minus, 0}, {1, minus, 4, minus, 5, 0, 4, 0}, {1, minus, 5, 0, 5, 1, 4, 1}, {minus, 1, 0, 0, 0, 1, minus, 1},
		{minus, minus, 0, 1, 0, 0, 2, 0}, {minus, minus, minus, 5, minus, 4, 1, 4}, {minus, minus, 2, 0, 1, minus, 3, minus},
		{least, least, 0, 0, 0xc0000000, 0, 0xc0000000, 0}, {least, most, 0, 0, 0x3fffffff, 0x80000000, 0xc0000000, 0x80000000},
	} {
		makes(t, "msub", row.s, row.t, row.hi, row.lo, row.wantHi, row.wantLo)
		makes(t, "msubu", row.s, row.t, row.hi, row.lo, row.uhi, row.ulo)
	}
}

// P10.2: div of any two of the edges but t 0, among them -2^31 by -1, and with each pair of signs.
func TestDiv(t *testing.T) {
	for _, row := range []struct{ s, t, left, quotient uint32 }{
		{0, 1, 0, 0}, {0, most, 0, 0}, {0, least, 0, 0}, {0, minus, 0, 0},
		{1, 1, 0, 1}, {1, most, 1, 0}, {1, least, 1, 0}, {1, minus, 0, minus},
		{most, 1, 0, most}, {most, most, 0, 1}, {most, least, most, 0}, {most, minus, 0, least + 1},
		{least, 1, 0, least}, {least, most, minus, minus}, {least, least, 0, 1}, {least, minus, 0, least},
		{minus, 1, 0, minus}, {minus, most, minus, 0}, {minus, least, minus, 0}, {minus, minus, 0, 1},
		{7, 2, 1, 3}, {1<<32 - 7, 2, minus, 1<<32 - 3}, {7, 1<<32 - 2, 1, 1<<32 - 3}, {1<<32 - 7, 1<<32 - 2, minus, 3},
		{6, 2, 0, 3}, {1<<32 - 6, 2, 0, 1<<32 - 3}, {6, 1<<32 - 2, 0, 1<<32 - 3}, {1<<32 - 6, 1<<32 - 2, 0, 3},
	} {
		makesAnew(t, "div", row.s, row.t, row.left, row.quotient)
	}
}

// P10.2: divu of any two of the edges but t 0.
func TestDivu(t *testing.T) {
	for _, row := range []struct{ s, t, left, quotient uint32 }{
		{0, 1, 0, 0}, {0, most, 0, 0}, {0, least, 0, 0}, {0, minus, 0, 0},
		{1, 1, 0, 1}, {1, most, 1, 0}, {1, least, 1, 0}, {1, minus, 1, 0},
		{most, 1, 0, most}, {most, most, 0, 1}, {most, least, most, 0}, {most, minus, most, 0},
		{least, 1, 0, least}, {least, most, 1, 1}, {least, least, 0, 1}, {least, minus, least, 0},
		{minus, 1, 0, minus}, {minus, most, 1, 2}, {minus, least, most, 1}, {minus, minus, 0, 1},
		{7, 2, 1, 3}, {1<<32 - 7, 2, 1, 0x7ffffffc}, {7, 1<<32 - 2, 7, 0}, {1<<32 - 7, 1<<32 - 2, 1<<32 - 7, 0}, {1<<32 - 2, 1<<32 - 7, 5, 1},
	} {
		makesAnew(t, "divu", row.s, row.t, row.left, row.quotient)
	}
}

// P10.2: of t 0 s is left, and the quotient is 2^32 - 1, with signs and without.
func TestDivByNothing(t *testing.T) {
	for _, s := range []uint32{0, 1, 7, most, least, 1<<32 - 7, minus} {
		makesAnew(t, "div", s, 0, s, minus)
		makesAnew(t, "divu", s, 0, s, minus)
	}
}

// P10.2: mthi and mtlo change one half alone, and t does not matter.
func TestMove(t *testing.T) {
	for _, s := range []uint32{0, 1, most, least, minus} {
		for _, r := range []uint32{0, 3, minus} {
			makes(t, "mthi", s, r, 5, 7, s, 7)
			makes(t, "mthi", s, r, 0, minus, s, minus)
			makes(t, "mtlo", s, r, 5, 7, 5, s)
			makes(t, "mtlo", s, r, minus, 0, minus, s)
		}
	}
}

// P10.3, P10.4: each at, and each that counts as it modulo 4, from 0 on.
func TestParts(t *testing.T) {
	const old, word = 0xa1b2c3d4, 0x11223344
	faces := map[string]func(old, word uint32, at int) uint32{
		"LoadLeft": LoadLeft, "LoadRight": LoadRight, "StoreLeft": StoreLeft, "StoreRight": StoreRight,
	}
	for name, want := range map[string][4]uint32{
		"LoadLeft":   {0x11223344, 0x223344d4, 0x3344c3d4, 0x44b2c3d4},
		"LoadRight":  {0xa1b2c311, 0xa1b21122, 0xa1112233, 0x11223344},
		"StoreLeft":  {0x11223344, 0xa1112233, 0xa1b21122, 0xa1b2c311},
		"StoreRight": {0x44b2c3d4, 0x3344c3d4, 0x223344d4, 0x11223344},
	} {
		for at, is := range want {
			for _, by := range []int{0, 4, 8, 400, 1 << 32, math.MaxInt - 3, -4, -8, -400, -1 << 32, math.MinInt} {
				if got := faces[name](old, word, by+at); got != is {
					t.Errorf("%s(%#x, %#x, %d): %#x; want %#x", name, uint32(old), word, by+at, got, is)
				}
			}
		}
	}
}

// P10.3, P10.4: an at below 0 counts from the word's end, the least of all is 0, and the greatest is 3.
func TestPartsAtFarAway(t *testing.T) {
	const old, word = 0xffffffff, 0x00010203
	for at, want := range map[int][4]uint32{
		-1:           {0x03ffffff, 0x00010203, 0xffffff00, 0x00010203},
		-2:           {0x0203ffff, 0xff000102, 0xffff0001, 0x010203ff},
		-3:           {0x010203ff, 0xffff0001, 0xff000102, 0x0203ffff},
		-4:           {0x00010203, 0xffffff00, 0x00010203, 0x03ffffff},
		math.MinInt:  {0x00010203, 0xffffff00, 0x00010203, 0x03ffffff},
		math.MaxInt:  {0x03ffffff, 0x00010203, 0xffffff00, 0x00010203},
		4:            {0x00010203, 0xffffff00, 0x00010203, 0x03ffffff},
		math.MaxInt8: {0x03ffffff, 0x00010203, 0xffffff00, 0x00010203},
	} {
		got := [4]uint32{LoadLeft(old, word, at), LoadRight(old, word, at), StoreLeft(old, word, at), StoreRight(old, word, at)}
		if got != want {
			t.Errorf("at %d: %#x; want %#x", at, got, want)
		}
	}
}
