package alu

import (
	"math"
	"strings"
	"testing"

	"ferry/api"
	"ferry/dec"
)

const (
	most  = 1<<31 - 1 // the greatest number with a sign
	least = 1 << 31   // the least one, as bits
	minus = 1<<32 - 1 // -1, as bits
)

// makes holds that an instruction makes a number of two.
func makes(t *testing.T, i api.Ins, s, r, want uint32) {
	t.Helper()
	if n, ok := Do(i, s, r); n != want || !ok {
		t.Errorf("Do(%v, %#x, %#x): %#x, %v; want %#x", i, s, r, n, ok, want)
	}
}

// makesNone holds that an instruction makes no number of two.
func makesNone(t *testing.T, i api.Ins, s, r uint32) {
	t.Helper()
	if n, ok := Do(i, s, r); n != 0 || ok {
		t.Errorf("Do(%v, %#x, %#x): %#x, %v; want none", i, s, r, n, ok)
	}
}

// of is an instruction that has a name alone.
func of(name string) api.Ins { return api.Ins{Name: name} }

// with is an instruction that has an Imm.
func with(name string, imm uint32) api.Ins { return api.Ins{Name: name, Rs: 2, Rt: 3, Imm: imm} }

// by is an instruction that has a Sa.
func by(name string, sa int) api.Ins { return api.Ins{Name: name, Rd: 2, Rt: 3, Sa: sa} }

// part is ext or ins.
func part(name string, sa, rd int) api.Ins { return api.Ins{Name: name, Rs: 2, Rt: 3, Sa: sa, Rd: rd} }

// notNames are names that are none.
func notNames() []string {
	return []string{"", " ", "Add", "ADD", "add ", " add", "ad", "addd", "add $1, $2, $3", "nop", "move", "not", "rotl", "sltui", "dadd", "lui\x00", "\xff", strings.Repeat("a", 1<<16)}
}

// P9.2: the chapter's examples.
func TestExamples(t *testing.T) {
	makesNone(t, of("add"), 1<<31-1, 1)
	makes(t, by("sra", 31), 0, 1<<31, 1<<32-1)
	makes(t, of("clz"), 1, 0, 31)
	makes(t, of("wsbh"), 0, 0x11223344, 0x22114433)
}

// P9.1: all names of the table, no other one of dec's, and none that is no name.
func TestKnown(t *testing.T) {
	known, unknown := strings.Fields(chapter), strings.Fields(others)
	if len(known) != 34 || len(unknown) != 49 {
		t.Fatalf("the test's own names: %d, %d", len(known), len(unknown))
	}
	for _, name := range append(known, unknown...) {
		if dec.Form(name) == "" {
			t.Errorf("the test's own name %s is not dec's", name)
		}
	}
	for _, name := range known {
		if !Known(name) {
			t.Errorf("Known(%s) is false", name)
		}
	}
	for _, name := range append(unknown, notNames()...) {
		if Known(name) {
			t.Errorf("Known(%.20q) is true", name)
		}
	}
}

// P9.2: a name that is not Known makes nothing, though its instruction can be; nor does one that is none.
func TestDoOfUnknown(t *testing.T) {
	for _, name := range append(strings.Fields(others), notNames()...) {
		i := of(name)
		if name == "rdhwr" {
			i.Rd = 29
		}
		if _, ok := dec.Encode(i); ok != (dec.Form(name) != "") {
			t.Errorf("the test's own %.20q: %v", name, ok)
		}
		makesNone(t, i, 5, 3)
		makesNone(t, i, 0, 0)
	}
}

// P9.2: an instruction that can't be makes nothing, though its name is Known.
func TestDoOfWhatCannotBe(t *testing.T) {
	for _, i := range []api.Ins{
		{Name: "add", Rs: 32}, {Name: "add", Rt: -1}, {Name: "addu", Rd: 32}, {Name: "addu", Sa: 1}, {Name: "addu", Imm: 1},
		{Name: "and", Rd: math.MaxInt}, {Name: "or", Rd: math.MinInt}, {Name: "mul", Sa: -1}, {Name: "nor", Rs: 1 << 32},
		{Name: "addi", Imm: 65536}, {Name: "addiu", Imm: 0xffffffff}, {Name: "slti", Rd: 1}, {Name: "sltiu", Sa: 1},
		{Name: "andi", Imm: 65536}, {Name: "ori", Imm: 1 << 31}, {Name: "xori", Rs: 32}, {Name: "lui", Rs: 1}, {Name: "lui", Imm: 65536},
		{Name: "sll", Sa: 32}, {Name: "sll", Sa: -1}, {Name: "sll", Rs: 1}, {Name: "srl", Sa: math.MinInt}, {Name: "sra", Sa: math.MaxInt}, {Name: "sra", Sa: 33},
		{Name: "sllv", Sa: 1}, {Name: "srlv", Rd: -1}, {Name: "srav", Imm: 1}, {Name: "rotr", Sa: 32}, {Name: "rotr", Sa: -1}, {Name: "rotr", Rs: 1}, {Name: "rotrv", Sa: 1},
		{Name: "clz", Rt: 1}, {Name: "clz", Rd: 1, Rt: 1}, {Name: "clo", Sa: 1}, {Name: "wsbh", Rs: 1}, {Name: "wsbh", Sa: 2}, {Name: "seb", Sa: 16}, {Name: "seh", Imm: 1},
		{Name: "ext", Sa: 1, Rd: 31}, {Name: "ext", Sa: 16, Rd: 16}, {Name: "ext", Sa: 32}, {Name: "ext", Rd: 32}, {Name: "ext", Sa: -1, Rd: 1}, {Name: "ext", Sa: 1, Rd: -1},
		{Name: "ins", Sa: 1}, {Name: "ins", Sa: 31, Rd: 30}, {Name: "ins", Rd: 32}, {Name: "ins", Sa: -1}, {Name: "ins", Sa: 32, Rd: 32}, {Name: "ins", Imm: 1},
	} {
		makesNone(t, i, 5, 3)
		makesNone(t, i, minus, minus)
	}
}

// P9.2: add and addu up to where add is over, on both sides.
func TestAdd(t *testing.T) {
	for _, row := range []struct {
		s, t, sum uint32
		over      bool
	}{
		{0, 0, 0, false}, {3, 4, 7, false}, {3, 1<<32 - 4, minus, false}, {minus, minus, 1<<32 - 2, false}, {1, minus, 0, false},
		{most, 0, most, false}, {most - 1, 1, most, false}, {1<<30 - 1, 1 << 30, most, false}, {most, minus, most - 1, false}, {most, least, minus, false},
		{most, 1, least, true}, {1, most, least, true}, {1 << 30, 1 << 30, least, true}, {most, most, 1<<32 - 2, true},
		{least, 0, least, false}, {least + 1, minus, least, false}, {3 << 30, 3 << 30, least, false}, {least, most, minus, false}, {least, 1, least + 1, false},
		{least, minus, most, true}, {minus, least, most, true}, {3 << 30, 3<<30 - 1, most, true}, {least, least, 0, true},
	} {
		makes(t, of("addu"), row.s, row.t, row.sum)
		if row.over {
			makesNone(t, of("add"), row.s, row.t)
		} else {
			makes(t, of("add"), row.s, row.t, row.sum)
		}
	}
}

// P9.2: sub and subu up to where sub is over, on both sides.
func TestSub(t *testing.T) {
	for _, row := range []struct {
		s, t, left uint32
		over       bool
	}{
		{0, 0, 0, false}, {7, 4, 3, false}, {4, 7, 1<<32 - 3, false}, {minus, minus, 0, false}, {0, 1, minus, false},
		{most, 0, most, false}, {most - 1, minus, most, false}, {0, least + 1, most, false}, {minus, least, most, false}, {most, most, 0, false},
		{most, minus, least, true}, {0, least, least, true}, {1, least + 1, least, true}, {most, least, minus, true},
		{least, 0, least, false}, {least + 1, 1, least, false}, {minus, most, least, false}, {least, least, 0, false}, {least, minus, least + 1, false},
		{least, 1, most, true}, {1<<32 - 2, most, most, true}, {least, most, 1, true},
	} {
		makes(t, of("subu"), row.s, row.t, row.left)
		if row.over {
			makesNone(t, of("sub"), row.s, row.t)
		} else {
			makes(t, of("sub"), row.s, row.t, row.left)
		}
	}
}

// P9.2: addi and addiu, at the edges of simm, up to where addi is over, on both sides; what rt has does not matter.
func TestAddi(t *testing.T) {
	for _, row := range []struct {
		s, imm, sum uint32
		over        bool
	}{
		{5, 0, 5, false}, {5, 7, 12, false}, {5, 65535, 4, false}, {0, 32767, 32767, false}, {0, 32768, 1<<32 - 32768, false}, {0, 65535, minus, false}, {minus, 1, 0, false},
		{most, 0, most, false}, {most - 1, 1, most, false}, {most - 32767, 32767, most, false}, {most, 65535, most - 1, false}, {most, 32768, most - 32768, false},
		{most, 1, least, true}, {most - 32766, 32767, least, true}, {most, 32767, least + 32766, true},
		{least, 0, least, false}, {least + 1, 65535, least, false}, {least + 32768, 32768, least, false}, {least, 32767, least + 32767, false},
		{least, 65535, most, true}, {least + 32767, 32768, most, true}, {least, 32768, most - 32767, true},
	} {
		makes(t, with("addiu", row.imm), row.s, minus, row.sum)
		if row.over {
			makesNone(t, with("addi", row.imm), row.s, 0)
		} else {
			makes(t, with("addi", row.imm), row.s, least, row.sum)
		}
	}
}

// P9.2: bit by bit; the four pairs of bits all stand in the numbers.
func TestBitByBit(t *testing.T) {
	const s, r = 0xff00ff00, 0xf0f0f0f0
	makes(t, of("and"), s, r, 0xf000f000)
	makes(t, of("or"), s, r, 0xfff0fff0)
	makes(t, of("xor"), s, r, 0x0ff00ff0)
	makes(t, of("nor"), s, r, 0x000f000f)
	makes(t, of("nor"), 0, 0, minus)
}

// P9.2: Imm without a sign, at its edges: no bit above it is 1.
func TestBitByBitWithImm(t *testing.T) {
	const s = 0xff00ff01
	for _, row := range []struct{ imm, and, or, xor uint32 }{
		{0, 0, s, s},
		{32767, 0x7f01, 0xff00ffff, 0xff0080fe},
		{32768, 0x8000, 0xff00ff01, 0xff007f01},
		{65535, 0xff01, 0xff00ffff, 0xff0000fe},
	} {
		makes(t, with("andi", row.imm), s, minus, row.and)
		makes(t, with("ori", row.imm), s, minus, row.or)
		makes(t, with("xori", row.imm), s, minus, row.xor)
	}
}

// P9.2: lui at the edges of Imm, whatever both have.
func TestLui(t *testing.T) {
	for imm, want := range map[uint32]uint32{0: 0, 1: 65536, 32767: 0x7fff0000, 32768: 0x80000000, 65535: 0xffff0000} {
		makes(t, api.Ins{Name: "lui", Rt: 3, Imm: imm}, minus, minus, want)
	}
}

// P9.2: slt and sltu, of numbers with both signs.
func TestLess(t *testing.T) {
	for _, row := range []struct{ s, t, signed, unsigned uint32 }{
		{0, 0, 0, 0}, {1, 2, 1, 1}, {2, 1, 0, 0}, {2, 2, 0, 0},
		{minus, 0, 1, 0}, {0, minus, 0, 1}, {minus, 1, 1, 0}, {1, minus, 0, 1},
		{minus, minus, 0, 0}, {minus - 1, minus, 1, 1}, {minus, minus - 1, 0, 0},
		{least, most, 1, 0}, {most, least, 0, 1}, {least, least, 0, 0}, {most, most, 0, 0}, {least, minus, 1, 1}, {0, most, 1, 1}, {0, least, 0, 1},
	} {
		makes(t, of("slt"), row.s, row.t, row.signed)
		makes(t, of("sltu"), row.s, row.t, row.unsigned)
	}
}

// P9.2: slti and sltiu, at the edges of simm: sltiu's has its sign first, and none when it is compared.
func TestLessThanImm(t *testing.T) {
	for _, row := range []struct{ s, imm, signed, unsigned uint32 }{
		{0, 0, 0, 0}, {minus, 0, 1, 0}, {1, 0, 0, 0}, {least, 0, 1, 0},
		{32766, 32767, 1, 1}, {32767, 32767, 0, 0}, {minus, 32767, 1, 0}, {least, 32767, 1, 0}, {most, 32767, 0, 0},
		{32767, 32768, 0, 1}, {32768, 32768, 0, 1}, {1<<32 - 32769, 32768, 1, 1}, {1<<32 - 32768, 32768, 0, 0}, {least, 32768, 1, 1}, {most, 32768, 0, 1},
		{65535, 65535, 0, 1}, {65536, 65535, 0, 1}, {minus - 1, 65535, 1, 1}, {minus, 65535, 0, 0}, {0, 65535, 0, 1},
	} {
		makes(t, with("slti", row.imm), row.s, minus, row.signed)
		makes(t, with("sltiu", row.imm), row.s, minus, row.unsigned)
	}
}

// P9.2: shifts by Sa, and by s modulo 32, of a number with its sign and of one without.
func TestShifts(t *testing.T) {
	for _, row := range []struct {
		n             int
		t             uint32
		up, down, sra uint32
	}{
		{0, 0x80000003, 0x80000003, 0x80000003, 0x80000003},
		{1, 0x80000003, 6, 0x40000001, 0xc0000001},
		{4, 0x80000003, 0x30, 0x08000000, 0xf8000000},
		{31, 0x80000003, 0x80000000, 1, minus},
		{0, 0x7fffffff, 0x7fffffff, 0x7fffffff, 0x7fffffff},
		{1, 0x7fffffff, 0xfffffffe, 0x3fffffff, 0x3fffffff},
		{31, 0x7fffffff, 0x80000000, 0, 0},
	} {
		makes(t, by("sll", row.n), minus, row.t, row.up)
		makes(t, by("srl", row.n), minus, row.t, row.down)
		makes(t, by("sra", row.n), minus, row.t, row.sra)
		for _, more := range []uint32{0, 32, 64, 1 << 31, 1<<32 - 32} {
			s := uint32(row.n) + more
			makes(t, of("sllv"), s, row.t, row.up)
			makes(t, of("srlv"), s, row.t, row.down)
			makes(t, of("srav"), s, row.t, row.sra)
		}
	}
}

// P9.2: s of 32, 33 and 2^32 - 1 shifts by 0, 1 and 31.
func TestShiftsModulo32(t *testing.T) {
	for s, want := range map[uint32][4]uint32{
		32:    {0x90000003, 0x90000003, 0x90000003, 0x90000003},
		33:    {0x20000006, 0x48000001, 0xc8000001, 0xc8000001},
		minus: {0x80000000, 1, minus, 0x20000007},
	} {
		for n, name := range []string{"sllv", "srlv", "srav", "rotrv"} {
			makes(t, of(name), s, 0x90000003, want[n])
		}
	}
}

// P9.2: turns by Sa, and by s modulo 32.
func TestTurns(t *testing.T) {
	for n, want := range map[int]uint32{0: 0x80000005, 1: 0xc0000002, 4: 0x58000000, 16: 0x00058000, 31: 0x0000000b} {
		makes(t, by("rotr", n), minus, 0x80000005, want)
		for _, more := range []uint32{0, 32, 1 << 31, 1<<32 - 32} {
			makes(t, of("rotrv"), uint32(n)+more, 0x80000005, want)
		}
	}
}

// P9.2: mul keeps 32 bits, of a product that goes past them, too.
func TestMul(t *testing.T) {
	for _, row := range []struct{ s, t, product uint32 }{
		{0, 5, 0}, {3, 5, 15}, {minus, 5, 1<<32 - 5}, {minus, minus, 1}, {65535, 65537, minus},
		{65536, 65536, 0}, {65537, 65537, 131073}, {0x12345678, 0x9abcdef0, 0x242d2080}, {least, 2, 0}, {least, 3, least}, {least, minus, least}, {most, most, 1},
	} {
		makes(t, of("mul"), row.s, row.t, row.product)
		makes(t, of("mul"), row.t, row.s, row.product)
	}
}

// P9.2: bits that are counted from the highest one on, of rs alone.
func TestCounts(t *testing.T) {
	for _, row := range []struct{ s, zeros, ones uint32 }{
		{0, 32, 0}, {1, 31, 0}, {2, 30, 0}, {3, 30, 0}, {65535, 16, 0}, {most, 1, 0}, {1 << 30, 1, 0},
		{least, 0, 1}, {least + 1, 0, 1}, {0xc0000000, 0, 2}, {0xbfffffff, 0, 1}, {0xfffffffe, 0, 31}, {0xfffffffd, 0, 30}, {minus, 0, 32},
	} {
		for _, r := range []uint32{0, minus} {
			makes(t, api.Ins{Name: "clz", Rd: 3, Rs: 2}, row.s, r, row.zeros)
			makes(t, api.Ins{Name: "clo", Rd: 3, Rs: 2}, row.s, r, row.ones)
		}
	}
}

// P9.2: ext of one bit, of all, of the lowest and of the highest ones.
func TestExt(t *testing.T) {
	const s = 0x923456f1
	for _, row := range []struct {
		sa, rd int
		want   uint32
	}{
		{0, 31, s}, {0, 0, 1}, {1, 0, 0}, {31, 0, 1}, {30, 0, 0}, {0, 7, 0xf1}, {0, 30, s - least},
		{24, 7, 0x92}, {1, 30, 0x491a2b78}, {30, 1, 2}, {4, 11, 0x56f}, {8, 15, 0x3456}, {16, 15, 0x9234},
	} {
		makes(t, part("ext", row.sa, row.rd), s, minus, row.want)
		makes(t, part("ext", row.sa, row.rd), s, 0, row.want)
	}
}

// P9.2: ins of one bit, of all, of the lowest and of the highest ones; t's other bits stay.
func TestIns(t *testing.T) {
	const s, r = 0x923456f1, 0xaaaaaaaa
	for _, row := range []struct {
		sa, rd int
		want   uint32
	}{
		{0, 31, s}, {0, 0, 0xaaaaaaab}, {1, 1, 0xaaaaaaaa}, {31, 31, 0xaaaaaaaa}, {30, 30, 0xeaaaaaaa},
		{0, 7, 0xaaaaaaf1}, {0, 30, 0x923456f1}, {24, 31, 0xf1aaaaaa}, {1, 31, 0x2468ade2}, {4, 15, 0xaaaa6f1a}, {8, 23, 0xaa56f1aa},
	} {
		makes(t, part("ins", row.sa, row.rd), s, r, row.want)
	}
	makes(t, part("ins", 4, 7), 0, minus, 0xffffff0f)
	makes(t, part("ins", 4, 7), minus, 0, 0xf0)
	makes(t, part("ins", 31, 31), 0, minus, most)
	makes(t, part("ins", 31, 31), 1, 0, least)
}

// P9.2: wsbh, seb and seh of t, whatever s is.
func TestParts(t *testing.T) {
	for _, s := range []uint32{0, minus} {
		for r, want := range map[uint32]uint32{0: 0, 0x11223344: 0x22114433, 0x000000ff: 0x0000ff00, 0xff000000: 0x00ff0000, 0x80ff017f: 0xff807f01} {
			makes(t, of("wsbh"), s, r, want)
		}
		for r, want := range map[uint32]uint32{0: 0, 127: 127, 128: 0xffffff80, 255: minus, 256: 0, 0xffffff7f: 0x7f, 0x12345681: 0xffffff81, 0x8000: 0} {
			makes(t, of("seb"), s, r, want)
		}
		for r, want := range map[uint32]uint32{0: 0, 128: 128, 32767: 32767, 32768: 0xffff8000, 65535: minus, 65536: 0, 0xffff7fff: 0x7fff, 0x12348001: 0xffff8001} {
			makes(t, of("seh"), s, r, want)
		}
	}
}

// P9.3: each name with s less than t, the same and greater, with signs and without.
func TestTraps(t *testing.T) {
	for _, row := range []struct {
		s, t uint32
		want string
	}{
		{0, 0, "tge tgeu teq"}, {5, 5, "tge tgeu teq"}, {minus, minus, "tge tgeu teq"}, {least, least, "tge tgeu teq"}, {most, most, "tge tgeu teq"},
		{1, 2, "tlt tltu tne"}, {least, minus, "tlt tltu tne"}, {0, most, "tlt tltu tne"}, {minus - 1, minus, "tlt tltu tne"},
		{2, 1, "tge tgeu tne"}, {minus, least, "tge tgeu tne"}, {most, 0, "tge tgeu tne"}, {minus, minus - 1, "tge tgeu tne"},
		{0, minus, "tge tltu tne"}, {most, least, "tge tltu tne"}, {0, least, "tge tltu tne"}, {5, 1<<32 - 5, "tge tltu tne"},
		{minus, 0, "tlt tgeu tne"}, {least, most, "tlt tgeu tne"}, {least, 0, "tlt tgeu tne"}, {1<<32 - 5, 5, "tlt tgeu tne"},
	} {
		for _, name := range strings.Fields(traps) {
			want := strings.Contains(" "+row.want+" ", " "+name+" ")
			if is := Traps(name, row.s, row.t); is != want {
				t.Errorf("Traps(%s, %#x, %#x): %v", name, row.s, row.t, is)
			}
		}
	}
}

// P9.3: no other name traps, whatever the numbers are.
func TestTrapsOfOthers(t *testing.T) {
	names := append(strings.Fields(chapter), notNames()...)
	for _, name := range append(names, "t", "te", "tge ", "Tge", "TEQ", "tgei", "tneu", "tequ", "tle", "tgt") {
		for _, s := range []uint32{0, 1, most, least, minus} {
			for _, r := range []uint32{0, 1, most, least, minus} {
				if Traps(name, s, r) {
					t.Errorf("Traps(%.20q, %#x, %#x)", name, s, r)
				}
			}
		}
	}
	for _, name := range strings.Fields(others) {
		if !strings.Contains(" "+traps+" ", " "+name+" ") && (Traps(name, 1, 1) || Traps(name, 0, minus) || Traps(name, minus, 0)) {
			t.Errorf("Traps(%s)", name)
		}
	}
}

// P9.4: sub takes away what add added, wherever add is not over; subu what addu and addiu added, always.
func TestSubOfAdd(t *testing.T) {
	for _, s := range edges() {
		for _, r := range edges() {
			if sum, ok := Do(of("add"), s, r); ok {
				makes(t, of("sub"), sum, r, s)
			}
			sum, _ := Do(of("addu"), s, r)
			makes(t, of("subu"), sum, r, s)
		}
		for _, imm := range []uint32{0, 1, 32767, 32768, 65535} {
			simm, _ := Do(with("addiu", imm), 0, 0)
			sum, _ := Do(with("addiu", imm), s, 0)
			makes(t, of("subu"), sum, simm, s)
		}
	}
}

// P9.4: nor of a number with itself turned is nothing.
func TestNorOfTurned(t *testing.T) {
	for _, s := range edges() {
		makes(t, of("nor"), s, ^s, 0)
		turned, _ := Do(of("nor"), s, s)
		makes(t, of("nor"), s, turned, 0)
		makes(t, of("nor"), turned, s, 0)
	}
}

// P9.4: ext takes out what ins put in, and ins puts back what ext took out, of every part of a word.
func TestInsAndExt(t *testing.T) {
	for _, s := range []uint32{0, 1, 0x5a0ff11e, least, minus} {
		for _, r := range []uint32{0, 0x923456f1, minus} {
			for sa := range 32 {
				for n := range 32 - sa {
					in, out := part("ins", sa, sa+n), part("ext", sa, n)
					put, ok := Do(in, s, r)
					if !ok {
						t.Fatalf("Do(%v, %#x, %#x) makes none", in, s, r)
					}
					makes(t, out, put, 0, uint32(uint64(s)&(1<<(n+1)-1)))
					taken, _ := Do(out, s, 0)
					makes(t, in, taken, s, s)
					old, _ := Do(out, r, 0)
					makes(t, in, old, put, r)
				}
			}
		}
	}
}

// P9.5: just one of tge and tlt traps, of tgeu and tltu, of teq and tne.
func TestJustOneTraps(t *testing.T) {
	for _, s := range edges() {
		for _, r := range edges() {
			for _, two := range [][2]string{{"tge", "tlt"}, {"tgeu", "tltu"}, {"teq", "tne"}} {
				if Traps(two[0], s, r) == Traps(two[1], s, r) {
					t.Errorf("%s and %s of %#x, %#x: both %v", two[0], two[1], s, r, Traps(two[0], s, r))
				}
			}
		}
	}
}
