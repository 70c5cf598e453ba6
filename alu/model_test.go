package alu

import (
	"math/big"
	"strconv"
	"strings"
	"testing"

	"ferry/api"
)

// chapter is the names of the chapter's table.
const chapter = `add sub addi addu subu addiu and or xor nor andi ori xori slt sltu slti sltiu lui
sll srl sra sllv srlv srav rotr rotrv mul clz clo ext ins wsbh seb seh`

// others is the names that dec has beside them.
const others = `jr jalr movz movn syscall break mfhi mthi mflo mtlo mult multu div divu tge tgeu tlt tltu teq tne
bltz bgez bltzal bgezal j jal beq bne blez bgtz madd maddu msub msubu rdhwr
lb lh lwl lw lbu lhu lwr sb sh swl sw swr ll sc`

// traps is the names that Traps knows.
const traps = "tge tgeu tlt tltu teq tne"

// bitsOf is a number's 32 bits as text, the highest first.
func bitsOf(v uint32) string {
	s := strconv.FormatUint(uint64(v), 2)
	return strings.Repeat("0", 32-len(s)) + s
}

// ofBits is the number of bits as text.
func ofBits(t testing.TB, s string) uint32 {
	t.Helper()
	v, err := strconv.ParseUint(s, 2, 32)
	if err != nil {
		t.Fatalf("the test's own bits %q: %v", s, err)
	}
	return uint32(v)
}

// bitwise is two texts of bits put together, bit by bit, where at tells the answers of 00, 01, 10 and 11.
func bitwise(a, b, at string) string {
	out := ""
	for n := range a {
		out += string(at[2*(a[n]-'0')+b[n]-'0'])
	}
	return out
}

// withSign is the number of bits whose first one is a sign.
func withSign(s string) *big.Int {
	n, _ := new(big.Int).SetString(s, 2)
	if s[0] == '1' {
		n.Sub(n, new(big.Int).Lsh(big.NewInt(1), uint(len(s))))
	}
	return n
}

func without(s string) *big.Int { return withSign("0" + s) }

// kept is a number's lowest 32 bits.
func kept(n *big.Int) string {
	return bitsOf(uint32(new(big.Int).Mod(n, big.NewInt(1<<32)).Uint64()))
}

// isLess is what slt and its like make.
func isLess(a, b *big.Int) string { return bitsOf(uint32((1 - a.Cmp(b)) / 2)) }

// wide is bits made 32 by a bit ahead of them.
func wide(s string, ahead byte) string { return strings.Repeat(string(ahead), 32-len(s)) + s }

// shifted is bits that go up or down by n, or turn down, as a name says.
func shifted(s string, n int, name string) string {
	switch strings.TrimSuffix(name, "v") {
	case "sll":
		return s[n:] + strings.Repeat("0", n)
	case "srl":
		return wide(s[:32-n], '0')
	case "sra":
		return wide(s[:32-n], s[0])
	}
	return s[32-n:] + s[:32-n]
}

// leadingOf is how many times a bit stands at the beginning.
func leadingOf(s, bit string) string { return bitsOf(uint32(32 - len(strings.TrimLeft(s, bit)))) }

// model is what Do must answer of an instruction that can be, worked out with bits as text and numbers of any size.
func model(t testing.TB, i api.Ins, sv, tv uint32) (uint32, bool) {
	t.Helper()
	s, r := bitsOf(sv), bitsOf(tv)
	imm := bitsOf(i.Imm)[16:]
	simm := wide(imm, imm[0])
	second := r
	switch i.Name {
	case "addi", "addiu", "slti", "sltiu":
		second = simm
	case "andi", "ori", "xori":
		second = wide(imm, '0')
	}
	by := i.Sa
	if strings.HasSuffix(i.Name, "v") {
		by = int(sv % 32)
	}
	var out string
	switch i.Name {
	case "add", "addi", "sub":
		n := new(big.Int).Add(withSign(s), withSign(second))
		if i.Name == "sub" {
			n.Sub(withSign(s), withSign(second))
		}
		if out = kept(n); withSign(out).Cmp(n) != 0 {
			return 0, false
		}
	case "addu", "addiu":
		out = kept(new(big.Int).Add(without(s), without(second)))
	case "subu":
		out = kept(new(big.Int).Sub(without(s), without(second)))
	case "mul":
		out = kept(new(big.Int).Mul(without(s), without(second)))
	case "and", "andi":
		out = bitwise(s, second, "0001")
	case "or", "ori":
		out = bitwise(s, second, "0111")
	case "xor", "xori":
		out = bitwise(s, second, "0110")
	case "nor":
		out = bitwise(s, second, "1000")
	case "slt", "slti":
		out = isLess(withSign(s), withSign(second))
	case "sltu", "sltiu":
		out = isLess(without(s), without(second))
	case "lui":
		out = imm + strings.Repeat("0", 16)
	case "clz":
		out = leadingOf(s, "0")
	case "clo":
		out = leadingOf(s, "1")
	case "ext":
		out = wide(s[32-i.Sa-i.Rd-1:32-i.Sa], '0')
	case "ins":
		out = r[:31-i.Rd] + s[31-i.Rd+i.Sa:] + r[32-i.Sa:]
	case "wsbh":
		out = r[8:16] + r[:8] + r[24:] + r[16:24]
	case "seb":
		out = wide(r[24:], r[24])
	case "seh":
		out = wide(r[16:], r[16])
	default:
		out = shifted(r, by, i.Name)
	}
	return ofBits(t, out), true
}

// chance hands out numbers by a simple rule.
type chance uint64

func (c *chance) next() uint32 {
	*c = *c*6364136223846793005 + 1442695040888963407
	return uint32(*c >> 32)
}

// edges are numbers at which an instruction may go wrong.
func edges() []uint32 {
	out := []uint32{0, 1, 2, 31, 32, 33, 63, 64, 127, 128, 255, 256, 32767, 32768, 65535, 65536, 0x11223344, 0x80ff7f00,
		1<<31 - 32768, 1<<31 - 2, 1<<31 - 1, 1 << 31, 1<<31 + 1, 1<<31 + 32767, 1<<31 + 32768, 1<<32 - 65536, 1<<32 - 32769, 1<<32 - 32768, 1<<32 - 2, 1<<32 - 1}
	c := chance(9)
	for range 12 {
		out = append(out, c.next())
	}
	return out
}

// instructions are ones of a name that can be: with the edges of Imm, all small numbers that may stand together, and registers that must not matter.
func instructions(name string) []api.Ins {
	i := api.Ins{Name: name}
	var out []api.Ins
	switch name {
	case "addi", "addiu", "slti", "sltiu", "andi", "ori", "xori", "lui":
		for _, imm := range []uint32{0, 1, 0x1234, 32767, 32768, 32769, 65534, 65535} {
			i.Imm = imm
			out = append(out, i)
		}
	case "sll", "srl", "sra", "rotr":
		for i.Sa = 0; i.Sa < 32; i.Sa++ {
			out = append(out, i)
		}
	case "ext", "ins":
		for n := range 32 * 32 {
			i.Sa, i.Rd = n/32, n%32
			if name == "ext" && i.Sa+i.Rd <= 31 || name == "ins" && i.Sa <= i.Rd {
				out = append(out, i)
			}
		}
	default:
		out = append(out, i)
		i.Rd = 31
		out = append(out, i)
	}
	return out
}

// P9.2: each name of the table, with every small number and each edge of Imm, of any two of the edges.
func TestDoAgainstModel(t *testing.T) {
	for _, name := range strings.Fields(chapter) {
		all := instructions(name)
		numbers := edges()
		if len(all) > 100 { // ext and ins: every part of a word, of fewer numbers
			numbers = []uint32{0, 1, 0x923456f1, 1 << 31, 1<<32 - 1}
		}
		for _, i := range all {
			for _, s := range numbers {
				for _, r := range numbers {
					n, ok := Do(i, s, r)
					want, is := model(t, i, s, r)
					if n != want || ok != is {
						t.Fatalf("Do(%v, %#x, %#x): %#x, %v; want %#x, %v", i, s, r, n, ok, want, is)
					}
				}
			}
		}
	}
}

// P9.2: numbers by chance; numbers that are near to one another among them, so that orders are held against each other.
func TestDoByChanceAgainstModel(t *testing.T) {
	c := chance(5)
	for _, name := range strings.Fields(chapter) {
		all := instructions(name)
		for range 600 {
			i, s, r := all[c.next()%uint32(len(all))], c.next(), c.next()
			if c.next()%3 == 0 {
				r = s + c.next()%5 - 2
			}
			if strings.Contains(" addi addiu slti sltiu andi ori xori lui ", " "+name+" ") {
				i.Imm = c.next() % 65536
			}
			n, ok := Do(i, s, r)
			want, is := model(t, i, s, r)
			if n != want || ok != is {
				t.Fatalf("Do(%v, %#x, %#x): %#x, %v; want %#x, %v", i, s, r, n, ok, want, is)
			}
		}
	}
}
