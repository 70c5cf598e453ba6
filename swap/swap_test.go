package swap

import (
	"math"
	"slices"
	"strings"
	"testing"
)

// words are numbers of 32 bits at the edges and between them.
func words() []uint32 {
	out := []uint32{0, 1, 2, 3, 4, 5, 7, 8, 127, 128, 255, 256, 4095, 4096, 4097, 32767, 32768, 65535, 65536,
		0x12345678, 0x7fffffff, 0x80000000, 0x80000001, 0xdeadbeef, 0xfffff000, 0xfffff001, 0xfffffffe, 0xffffffff}
	next := uint32(12345)
	for range 60 {
		next = next*1664525 + 1013904223
		out = append(out, next)
	}
	return out
}

// longs are numbers of 64 bits, made of words.
func longs() []uint64 {
	out := []uint64{0, 1, 255, 256, 258, 0x0102030405060708, 1 << 63, math.MaxUint64}
	all := words()
	for i, w := range all {
		out = append(out, uint64(w)<<32|uint64(all[len(all)-1-i]))
	}
	return out
}

// turned is a text with its bytes from the last to the first.
func turned(s string) string {
	b := []byte(s)
	slices.Reverse(b)
	return string(b)
}

// wrongSizes are numbers of bytes, or of bits, that nothing has.
var wrongSizes = []int{-1, -2, -8, -9, -64, math.MinInt, math.MinInt + 1, math.MinInt32, 33, 34, 64, 65, math.MaxInt32, math.MaxInt}

// P1.1: Be and Le.
func TestNumberOfBytes(t *testing.T) {
	rows := []struct {
		s      string
		be, le uint64
	}{
		{"", 0, 0},
		{"\x00", 0, 0},
		{"\x07", 7, 7},
		{"\xff", 255, 255},
		{"\x01\x02", 0x0102, 0x0201},
		{"\x00\x00\x01\x02", 258, 2<<24 + 1<<16},
		{"\x80\x00\x00", 0x800000, 0x80},
		{"\x01\x02\x03\x04\x05", 0x0102030405, 0x0504030201},
		{"\x01\x02\x03\x04\x05\x06\x07", 0x01020304050607, 0x07060504030201},
		{"\x01\x02\x03\x04\x05\x06\x07\x08", 0x0102030405060708, 0x0807060504030201},
		{"\xff\xff\xff\xff\xff\xff\xff\xff", math.MaxUint64, math.MaxUint64},
		{"\x80\x00\x00\x00\x00\x00\x00\x01", 1<<63 + 1, 1<<56 + 0x80},
		{"é", 0xc3a9, 0xa9c3}, // bytes, not runes
	}
	for _, r := range rows {
		if got := Be(r.s); got != r.be {
			t.Errorf("Be(%q) = %#x, not %#x", r.s, got, r.be)
		}
		if got := Le(r.s); got != r.le {
			t.Errorf("Le(%q) = %#x, not %#x", r.s, got, r.le)
		}
	}
}

// P1.1: more than 8 bytes are no number, not even with zeros in front or behind.
func TestTooManyBytes(t *testing.T) {
	for _, s := range []string{"\x00\x01\x02\x03\x04\x05\x06\x07\x08", "\x01\x02\x03\x04\x05\x06\x07\x08\x00",
		"\x00\x00\x00\x00\x00\x00\x00\x00\x01", "123456789", strings.Repeat("x", 16), strings.Repeat("\xff", 100000)} {
		if Be(s) != 0 || Le(s) != 0 {
			t.Errorf("%d bytes: Be %#x, Le %#x, not 0", len(s), Be(s), Le(s))
		}
	}
}

// P1.1: PutBe and PutLe.
func TestBytesOfNumber(t *testing.T) {
	rows := []struct {
		v      uint64
		n      int
		be, le string
	}{
		{258, 4, "\x00\x00\x01\x02", "\x02\x01\x00\x00"},
		{258, 1, "\x02", "\x02"},
		{258, 0, "", ""},
		{0, 0, "", ""},
		{0, 3, "\x00\x00\x00", "\x00\x00\x00"},
		{0x0102030405060708, 1, "\x08", "\x08"},
		{0x0102030405060708, 3, "\x06\x07\x08", "\x08\x07\x06"},
		{0x0102030405060708, 7, "\x02\x03\x04\x05\x06\x07\x08", "\x08\x07\x06\x05\x04\x03\x02"},
		{0x0102030405060708, 8, "\x01\x02\x03\x04\x05\x06\x07\x08", "\x08\x07\x06\x05\x04\x03\x02\x01"},
		{math.MaxUint64, 2, "\xff\xff", "\xff\xff"},
		{0x80ff, 2, "\x80\xff", "\xff\x80"},
	}
	for _, r := range rows {
		if got := PutBe(r.v, r.n); got != r.be {
			t.Errorf("PutBe(%#x, %d) = %q, not %q", r.v, r.n, got, r.be)
		}
		if got := PutLe(r.v, r.n); got != r.le {
			t.Errorf("PutLe(%#x, %d) = %q, not %q", r.v, r.n, got, r.le)
		}
	}
}

// P1.1: of a number of bytes that is not 0 to 8 there is nothing.
func TestWrongNumberOfBytes(t *testing.T) {
	for _, n := range append([]int{9, 10, 16}, wrongSizes...) {
		for _, v := range []uint64{0, 258, math.MaxUint64} {
			if PutBe(v, n) != "" || PutLe(v, n) != "" {
				t.Errorf("n %d: PutBe %q, PutLe %q, not empty", n, PutBe(v, n), PutLe(v, n))
			}
		}
	}
}

// P1.2: Sext.
func TestSext(t *testing.T) {
	rows := []struct {
		v    uint32
		bits int
		want uint32
	}{
		{255, 8, 0xffffffff},
		{127, 8, 127},
		{128, 8, 0xffffff80},
		{0x17f, 8, 0x7f}, // what stood above does not count
		{0xffffff00, 8, 0},
		{1, 1, 0xffffffff},
		{2, 1, 0},
		{3, 1, 0xffffffff},
		{0x7fff, 16, 0x7fff},
		{0x8000, 16, 0xffff8000},
		{0xabcd1234, 16, 0x1234},
		{0x7fffffff, 31, 0xffffffff},
		{0xbfffffff, 31, 0x3fffffff},
		{0x40000000, 31, 0xc0000000},
		{0x80000000, 32, 0x80000000},
		{0xdeadbeef, 32, 0xdeadbeef},
		{255, 0, 255},
		{0xdeadbeef, -8, 0xdeadbeef},
		{0xdeadbeef, 33, 0xdeadbeef},
	}
	for _, r := range rows {
		if got := Sext(r.v, r.bits); got != r.want {
			t.Errorf("Sext(%#x, %d) = %#x, not %#x", r.v, r.bits, got, r.want)
		}
	}
}

// P1.2: each bit of Sext, from the sentence; and v itself where bits is not 1 to 32.
func TestSextBits(t *testing.T) {
	for _, v := range words() {
		for n := 1; n <= 32; n++ {
			got := Sext(v, n)
			for at := range 32 {
				want := v >> min(at, n-1) & 1
				if got>>at&1 != want {
					t.Fatalf("Sext(%#x, %d) = %#x: bit %d is not %d", v, n, got, at, want)
				}
			}
		}
		for _, n := range append([]int{0}, wrongSizes...) {
			if got := Sext(v, n); got != v {
				t.Errorf("Sext(%#x, %d) = %#x, not itself", v, n, got)
			}
		}
	}
}

// P1.2: Rot, n below 0 and above 31 among them.
func TestRot(t *testing.T) {
	rows := []struct {
		v    uint32
		n    int
		want uint32
	}{
		{1, 1, 1 << 31},
		{1, 0, 1},
		{1, 31, 2},
		{1, 32, 1},
		{1, 33, 1 << 31},
		{1, -1, 2},
		{1, -31, 1 << 31},
		{1, -32, 1},
		{1, -33, 2},
		{0x12345678, 8, 0x78123456},
		{0x12345678, -8, 0x34567812},
		{0x12345678, 16, 0x56781234},
		{0x80000000, 31, 1},
		{0xffffffff, 13, 0xffffffff},
		{0, 5, 0},
		{0x12345678, math.MinInt, 0x12345678},
		{0x12345678, math.MinInt + 8, 0x78123456},
		{0x12345678, math.MaxInt, 0x2468acf0},
	}
	for _, r := range rows {
		if got := Rot(r.v, r.n); got != r.want {
			t.Errorf("Rot(%#x, %d) = %#x, not %#x", r.v, r.n, got, r.want)
		}
	}
}

// P1.2: each bit of Rot, from the sentence.
func TestRotBits(t *testing.T) {
	for _, v := range words() {
		for n := -70; n <= 70; n++ {
			got := Rot(v, n)
			down := (n%32 + 32) % 32
			for at := range 32 {
				if got>>at&1 != v>>((at+down)%32)&1 {
					t.Fatalf("Rot(%#x, %d) = %#x: bit %d", v, n, got, at)
				}
			}
		}
	}
}

// P1.2: Up, by 0 and multiples above 2^32 - 1 among them.
func TestUp(t *testing.T) {
	rows := []struct {
		v, by, want uint32
		ok          bool
	}{
		{5, 4, 8, true},
		{8, 4, 8, true},
		{9, 4, 12, true},
		{0, 4, 0, true},
		{0, 0xffffffff, 0, true},
		{1, 0xffffffff, 0xffffffff, true},
		{1, 1, 1, true},
		{7, 3, 9, true}, // not only powers of 2
		{10, 7, 14, true},
		{3, 100, 100, true},
		{0xffffffff, 1, 0xffffffff, true},
		{0xffffffff, 0xffffffff, 0xffffffff, true},
		{0xfffffffe, 0xffffffff, 0xffffffff, true},
		{0xffffffff, 3, 0xffffffff, true},
		{0xfffffffd, 3, 0xffffffff, true},
		{0xfffff000, 4096, 0xfffff000, true},
		{0xffffefff, 4096, 0xfffff000, true},
		{0xfffff001, 4096, 0, false}, // exactly 2^32
		{0xffffffff, 4096, 0, false},
		{0xffffffff, 2, 0, false},
		{0x80000001, 0x80000000, 0, false},
		{0xffffffff, 0xfffffffe, 0, false}, // well above 2^32
		{0xffffffff, 0x90000000, 0, false},
		{0, 0, 0, false},
		{5, 0, 0, false},
		{0xffffffff, 0, 0, false},
	}
	for _, r := range rows {
		if got, ok := Up(r.v, r.by); got != r.want || ok != r.ok {
			t.Errorf("Up(%#x, %#x) = %#x, %v, not %#x, %v", r.v, r.by, got, ok, r.want, r.ok)
		}
	}
}

// P1.3: there and back, and turned about.
func TestThereAndBack(t *testing.T) {
	for _, v := range longs() {
		for n := 0; n <= 8; n++ {
			be, le := PutBe(v, n), PutLe(v, n)
			if len(be) != n || le != turned(be) {
				t.Fatalf("%#x, %d: PutBe %q, PutLe %q", v, n, be, le)
			}
			low := v
			if n < 8 {
				low = v & (1<<(8*n) - 1)
			}
			if Be(be) != low || Le(le) != low {
				t.Fatalf("%#x, %d: back as %#x, %#x, not %#x", v, n, Be(be), Le(le), low)
			}
			if PutBe(Be(be), n) != be || PutLe(Le(be), n) != be {
				t.Fatalf("%q: there again as %q, %q", be, PutBe(Be(be), n), PutLe(Le(be), n))
			}
		}
		if Be(PutBe(v, 8)) != v || Le(PutLe(v, 8)) != v {
			t.Errorf("%#x: 8 bytes back as %#x, %#x", v, Be(PutBe(v, 8)), Le(PutLe(v, 8)))
		}
	}
}

// P1.4: Rot by n and by 32 - n is as it was.
func TestRotAround(t *testing.T) {
	for _, v := range words() {
		for _, n := range append([]int{0, 1, 7, 16, 31, 32}, wrongSizes...) {
			if got := Rot(Rot(v, n), 32-n); got != v {
				t.Errorf("Rot(Rot(%#x, %d), 32 less that) = %#x", v, n, got)
			}
		}
	}
}

// P1.4: Sext of Sext is Sext.
func TestSextTwice(t *testing.T) {
	for _, v := range words() {
		for n := -3; n <= 36; n++ {
			once := Sext(v, n)
			if got := Sext(once, n); got != once {
				t.Errorf("Sext(%#x, %d) = %#x, twice %#x", v, n, once, got)
			}
		}
	}
}

// P1.4: Up is a multiple, not below v, less than by above it; and refused only where no such number has 32 bits.
func TestUpIsLeastMultiple(t *testing.T) {
	for _, v := range words() {
		for _, by := range words() {
			up, ok := Up(v, by)
			if by == 0 {
				if up != 0 || ok {
					t.Errorf("Up(%#x, 0) = %#x, %v", v, up, ok)
				}
				continue
			}
			least := (uint64(v) + uint64(by) - 1) / uint64(by) * uint64(by)
			if !ok {
				if up != 0 || least <= math.MaxUint32 {
					t.Errorf("Up(%#x, %#x) = %#x, false; the multiple is %#x", v, by, up, least)
				}
				continue
			}
			if up%by != 0 || up < v || up-v >= by || uint64(up) != least {
				t.Errorf("Up(%#x, %#x) = %#x, not %#x", v, by, up, least)
			}
		}
	}
}

// 0.1: all arguments may be any; whoever leaves an iterator early is not called again.
func TestPlacesLeftEarly(t *testing.T) {
	for name, places := range map[string]func(func(int) bool){"forward": forward(8), "backward": backward(8)} {
		n := 0
		for range places {
			n++
			if n == 3 {
				break
			}
		}
		if n != 3 {
			t.Errorf("%s handed out %d places, not 3", name, n)
		}
	}
}
