package wide

import (
	"encoding/binary"
	"math/big"
	"slices"
	"strings"
	"testing"
)

// chance hands out numbers by a simple rule.
type chance uint64

func (c *chance) next() uint32 {
	*c = *c*6364136223846793005 + 1442695040888963407
	return uint32(*c >> 32)
}

// edges are numbers at which an instruction may go wrong.
func edges() []uint32 {
	return []uint32{0, 1, 2, 3, 7, 255, 256, 65535, 65536, 65537, 0x11223344, 0x80ff7f00,
		most - 1, most, least, least + 1, 1<<32 - 65536, 1<<32 - 7, 1<<32 - 2, minus}
}

// quads hands on four numbers at a time: any two of the edges with some of them, and numbers by chance, of which some are near to one another.
func quads(holds func(s, t, hi, lo uint32)) {
	for _, s := range edges() {
		for _, t := range edges() {
			for _, hi := range []uint32{0, 1, most, least, minus} {
				for _, lo := range []uint32{0, 1, most, least, minus} {
					holds(s, t, hi, lo)
				}
			}
		}
	}
	c := chance(10)
	for range 5000 {
		s, t, hi, lo := c.next(), c.next()>>(c.next()%32), c.next(), c.next()
		if c.next()%3 == 0 {
			t = s + c.next()%5 - 2
		}
		holds(s, t, hi, lo)
	}
}

func power(n uint) *big.Int { return new(big.Int).Lsh(big.NewInt(1), n) }

// number is 32 bits as a number of any size, with its sign or without.
func number(v uint32, sign bool) *big.Int {
	n := new(big.Int).SetUint64(uint64(v))
	if sign && n.Cmp(power(31)) >= 0 {
		n.Sub(n, power(32))
	}
	return n
}

// halves is a number's lowest 64 bits, the high ones and the low ones.
func halves(n *big.Int) (uint32, uint32) {
	hi, lo := new(big.Int).DivMod(new(big.Int).Mod(n, power(64)), power(32), new(big.Int))
	return uint32(hi.Uint64()), uint32(lo.Uint64())
}

// half is a number's lowest 32 bits.
func half(n *big.Int) uint32 {
	_, lo := halves(n)
	return lo
}

// model is what Do must answer of a name that is Known, worked out with numbers of any size.
func model(name string, sv, tv, hi, lo uint32) (uint32, uint32) {
	sign := !strings.HasSuffix(name, "u")
	s, t := number(sv, sign), number(tv, sign)
	both := new(big.Int).Add(new(big.Int).Mul(number(hi, false), power(32)), number(lo, false))
	product := new(big.Int).Mul(s, t)
	switch name {
	case "mult", "multu":
		return halves(product)
	case "madd", "maddu":
		return halves(both.Add(both, product))
	case "msub", "msubu":
		return halves(both.Sub(both, product))
	case "mthi":
		return sv, lo
	case "mtlo":
		return hi, sv
	}
	if t.Sign() == 0 {
		return sv, 1<<32 - 1
	}
	quotient, left := new(big.Int).QuoRem(s, t, new(big.Int))
	return half(left), half(quotient)
}

// P10.2: each name, at any of the edges and by chance.
func TestDoAgainstModel(t *testing.T) {
	for _, name := range strings.Fields(chapter) {
		quads(func(s, r, hi, lo uint32) {
			h, l := Do(name, s, r, hi, lo)
			if wantHi, wantLo := model(name, s, r, hi, lo); h != wantHi || l != wantLo {
				t.Fatalf("Do(%s, %#x, %#x, %#x, %#x): %#x, %#x; want %#x, %#x", name, s, r, hi, lo, h, l, wantHi, wantLo)
			}
		})
	}
}

// P10.5: the quotient times t and what is left are s, t 0 and -2^31 by -1 among them; what is left is less than t, and has s's sign.
func TestQuotientAndLeft(t *testing.T) {
	quads(func(s, r, hi, lo uint32) {
		for _, name := range []string{"div", "divu"} {
			sign := name == "div"
			left, quotient := Do(name, s, r, hi, lo)
			if quotient*r+left != s {
				t.Fatalf("%s: %#x times %#x and %#x are not %#x", name, quotient, r, left, s)
			}
			if r == 0 {
				continue
			}
			n := number(left, sign)
			if n.CmpAbs(number(r, sign)) >= 0 || n.Sign()*number(s, sign).Sign() < 0 {
				t.Fatalf("%s of %#x by %#x: %#x is left", name, s, r, left)
			}
		}
	})
}

// P10.5: msub takes away what madd added, and madd adds what msub took away; so do msubu and maddu.
func TestMsubOfMadd(t *testing.T) {
	quads(func(s, r, hi, lo uint32) {
		for _, pair := range [][2]string{{"madd", "msub"}, {"msub", "madd"}, {"maddu", "msubu"}, {"msubu", "maddu"}} {
			h, l := Do(pair[0], s, r, hi, lo)
			if h, l = Do(pair[1], s, r, h, l); h != hi || l != lo {
				t.Fatalf("%s and %s of %#x, %#x: %#x, %#x; want %#x, %#x", pair[0], pair[1], s, r, h, l, hi, lo)
			}
		}
	})
}

// bytesOf is a word's bytes, the highest first.
func bytesOf(v uint32) []byte { return binary.BigEndian.AppendUint32(nil, v) }

func ofBytes(parts ...[]byte) uint32 { return binary.BigEndian.Uint32(slices.Concat(parts...)) }

// P10.3, P10.4: each at, of any two words.
func TestPartsAgainstModel(t *testing.T) {
	quads(func(old, word, _, _ uint32) {
		o, w := bytesOf(old), bytesOf(word)
		for at := range 4 {
			want := [4]uint32{
				ofBytes(w[at:], o[4-at:]),
				ofBytes(o[:3-at], w[:at+1]),
				ofBytes(o[:at], w[:4-at]),
				ofBytes(w[3-at:], o[at+1:]),
			}
			got := [4]uint32{LoadLeft(old, word, at), LoadRight(old, word, at), StoreLeft(old, word, at), StoreRight(old, word, at)}
			if got != want {
				t.Fatalf("old %#x, word %#x, at %d: %#x; want %#x", old, word, at, got, want)
			}
		}
	})
}

// P10.6: LoadLeft at a byte of the first word and LoadRight at the one ahead of it of the second make the four bytes from there on, in either order and whatever the register was. Of byte 0, the one ahead of the second word's is the first word's last.
func TestLoadUnaligned(t *testing.T) {
	quads(func(first, second, reg, _ uint32) {
		memory := slices.Concat(bytesOf(first), bytesOf(second))
		for at := range 4 {
			want := ofBytes(memory[at : at+4])
			last := []uint32{first, second}[(at+3)/4]
			leftFirst := LoadRight(LoadLeft(reg, first, at), last, at-1)
			rightFirst := LoadLeft(LoadRight(reg, last, at-1), first, at)
			if leftFirst != want || rightFirst != want {
				t.Fatalf("%x from %d on: %#x, %#x; want %#x", memory, at, leftFirst, rightFirst, want)
			}
		}
	})
}

// P10.6: StoreLeft and StoreRight put a register's four bytes there, in either order, and change no other byte.
func TestStoreUnaligned(t *testing.T) {
	quads(func(first, second, reg, _ uint32) {
		for at := range 4 {
			want := slices.Concat(bytesOf(first), bytesOf(second))
			copy(want[at:], bytesOf(reg))
			n := (at + 3) / 4 // which of the two words has the last byte
			leftFirst, rightFirst := [2]uint32{first, second}, [2]uint32{first, second}
			leftFirst[0] = StoreLeft(leftFirst[0], reg, at)
			leftFirst[n] = StoreRight(leftFirst[n], reg, at-1)
			rightFirst[n] = StoreRight(rightFirst[n], reg, at-1)
			rightFirst[0] = StoreLeft(rightFirst[0], reg, at)
			got := slices.Concat(bytesOf(leftFirst[0]), bytesOf(leftFirst[1]))
			if !slices.Equal(got, want) || leftFirst != rightFirst {
				t.Fatalf("%#x at %d of %#x, %#x: %x; want %x", reg, at, first, second, got, want)
			}
		}
	})
}

// P10.6: what was put at a byte is what is taken from there.
func TestStoreAndLoadUnaligned(t *testing.T) {
	quads(func(first, second, reg, other uint32) {
		for at := 1; at < 4; at++ {
			a, b := StoreLeft(first, reg, at), StoreRight(second, reg, at-1)
			if got := LoadRight(LoadLeft(other, a, at), b, at-1); got != reg {
				t.Fatalf("%#x at %d of %#x, %#x is %#x there", reg, at, first, second, got)
			}
		}
	})
}
