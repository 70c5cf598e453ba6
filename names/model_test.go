package names

import (
	"encoding/binary"
	"slices"
	"strings"
	"testing"

	"ferry/api"
)

// chance hands out numbers by a simple rule.
type chance uint64

func (c *chance) next() uint32 {
	*c = *c*6364136223846793005 + 1442695040888963407
	return uint32(*c >> 32)
}

func (c *chance) below(n uint32) uint32 { return c.next() % n }

func oneOf[T any](c *chance, all ...T) T { return all[c.below(uint32(len(all)))] }

// modelHash says the document's sentence in numbers of 64 bits.
func modelHash(name string) uint32 {
	var h uint64
	for _, c := range []byte(name) {
		h = (h*16 + uint64(c)) % (1 << 32)
		g := h / (1 << 28) * (1 << 28)
		h ^= g / (1 << 24)
		h %= 1 << 28
	}
	return uint32(h)
}

func modelFit(l []api.Sym) bool {
	fit := len(l) < 201
	for _, s := range l {
		fit = fit && len(s.Name) > 0 && len(s.Name) < 32 && strings.Count(s.Name, "\x00") == 0
		fit = fit && (s.Bind == 0 || s.Bind == 1 || s.Bind == 2) && (s.Part == 0 || s.Part == 1 || s.Part == 2)
	}
	return fit
}

// modelTable lays a table's numbers into room of their own; each way is asked of all symbols.
func modelTable(l []api.Sym, ways int) api.Table {
	strs := "\x00"
	syms := make([]byte, 16*len(l)+16)
	hash := make([]byte, 4*(2+ways+len(l)+1))
	word := func(out []byte, n int, v uint32) { binary.BigEndian.PutUint32(out[4*n:], v) }
	for i, s := range l {
		word(syms, 4*i+4, uint32(len(strs)))
		word(syms, 4*i+5, s.Value)
		word(syms, 4*i+6, s.Size)
		word(syms, 4*i+7, uint32(s.Bind)<<28|uint32(s.Part))
		strs += s.Name + "\x00"
	}
	word(hash, 0, uint32(ways))
	word(hash, 1, uint32(len(l)+1))
	for w := range ways {
		last := 2 + w
		for i, s := range l {
			if modelHash(s.Name)%uint32(ways) == uint32(w) {
				word(hash, last, uint32(i+1))
				last = 2 + ways + i + 1
			}
		}
	}
	return api.Table{Syms: string(syms), Strs: strs, Hash: string(hash)}
}

// modelRead asks each of the document's conditions by itself.
func modelRead(t api.Table) ([]api.Sym, api.Errno) {
	n := len(t.Syms)
	if n%16 != 0 || n < 16 || n > 3216 || strings.Trim(t.Syms[:16], "\x00") != "" {
		return nil, api.ErrForm
	}
	var l []api.Sym
	for at := 16; at < n; at += 16 {
		row := []byte(t.Syms[at : at+16])
		word := func(n int) uint32 { return binary.BigEndian.Uint32(row[4*n:]) }
		from := int64(word(0))
		to := from
		for to < int64(len(t.Strs)) && t.Strs[to] != 0 {
			to++
		}
		if to >= int64(len(t.Strs)) || row[12]%16 != 0 || row[13] != 0 {
			return nil, api.ErrForm
		}
		l = append(l, api.Sym{Name: t.Strs[from:to], Value: word(1), Size: word(2), Bind: int(row[12] / 16), Part: int(row[14])*256 + int(row[15])})
	}
	if !modelFit(l) {
		return nil, api.ErrForm
	}
	return l, api.OK
}

// modelFind goes the way over numbers that were all taken off ahead.
func modelFind(t api.Table, name string) (int, bool) {
	l, err := modelRead(t)
	var all []int64
	for s := t.Hash; len(s) >= 4; s = s[4:] {
		all = append(all, int64(binary.BigEndian.Uint32([]byte(s))))
	}
	if err != api.OK || len(all) == 0 || all[0] == 0 {
		return 0, false
	}
	at := 2 + int64(modelHash(name))%all[0]
	for range len(t.Syms) / 16 {
		if at >= int64(len(all)) || all[at] == 0 || all[at] > int64(len(l)) {
			return 0, false
		}
		if s := l[all[at]-1]; s.Name == name && s.Part != 0 && s.Bind != 0 {
			return int(all[at] - 1), true
		}
		at = 2 + all[0] + all[at]
	}
	return 0, false
}

// name is one of a few, so that some are the same, and some of the same number.
func (c *chance) name() string {
	short := oneOf(c, "a", "b", "ab", "bR", "main", "puts", "x\xff", "aaaaaaaaa", strings.Repeat("y", 31))
	return oneOf(c, short, short, short, short+oneOf(c, "1", "2"))
}

func (c *chance) symbol() api.Sym {
	s := api.Sym{Name: c.name(), Value: c.next(), Size: oneOf(c, 0, 4, c.next()), Bind: int(c.below(3)), Part: int(c.below(3))}
	if c.below(200) == 0 {
		s.Name = oneOf(c, "", "\x00", "a\x00b", strings.Repeat("z", 32))
	}
	if c.below(200) == 0 {
		s.Bind = oneOf(c, -1, 3, 16)
	}
	if c.below(200) == 0 {
		s.Part = oneOf(c, -1, 3, 256)
	}
	if len(s.Name) > 31 && c.below(100) > 0 {
		s.Name = s.Name[:31]
	}
	return s
}

func (c *chance) symbols() (l []api.Sym) {
	for range oneOf(c, 0, 1, 2, 3, 5, 8, int(c.below(30))) {
		l = append(l, c.symbol())
	}
	return l
}

// spoilt is bytes of which some are changed, or that are shorter.
func (c *chance) spoilt(s string) string {
	for range oneOf(c, 0, 0, 0, 1, 2) {
		out := []byte(s)
		if len(out) > 0 {
			out[c.below(uint32(len(out)))] = oneOf(c, byte(c.next()), byte(c.below(9)), 0)
		}
		s = string(out)
	}
	return oneOf(c, s, s, s, s, s, s, s, s, s[:c.below(uint32(len(s)+1))])
}

// leading is a Hash that leads anywhere.
func (c *chance) leading(n int) string {
	all := []uint32{oneOf[uint32](c, 0, 1, 1, 2, 3, 64, 65), uint32(n)}
	for range c.below(uint32(2*n + 6)) {
		all = append(all, c.below(uint32(n+2)))
	}
	return words(all...)
}

// P15.1 and P15.2: symbols by chance, against the model.
func TestModelWrite(t *testing.T) {
	c, tables := chance(15), 0
	for range 20000 {
		l, ways := c.symbols(), oneOf(&c, 1, 2, 3, 64, int(c.below(67)))
		for _, s := range l {
			if got, want := Hash(s.Name), modelHash(s.Name); got != want {
				t.Fatalf("Hash(%q) is %#x, and not %#x", s.Name, got, want)
			}
		}
		fit := modelFit(l)
		if got := Fit(l); got != fit {
			t.Fatalf("Fit(%v) is %v", l, got)
		}
		var want api.Table
		if fit && ways >= 1 && ways <= 64 {
			want = modelTable(l, ways)
			tables++
		}
		if got := Write(l, ways); got != want {
			t.Fatalf("Write(%v, %d) is %q, and not %q", l, ways, got, want)
		}
	}
	if tables < 5000 {
		t.Errorf("but %d tables", tables)
	}
}

// P15.3 and P15.4: tables by chance, some of them spoilt, against the model; what Read tells is fit, and stands in Syms.
func TestModelRead(t *testing.T) {
	c, counts, found := chance(151), map[api.Errno]int{}, map[bool]int{}
	for range 40000 {
		l := c.symbols()
		if !modelFit(l) {
			continue
		}
		table := modelTable(l, int(1+c.below(5)))
		table = api.Table{Syms: c.spoilt(table.Syms), Strs: c.spoilt(table.Strs), Hash: c.spoilt(table.Hash)}
		if c.below(3) == 0 {
			table.Hash = c.leading(len(l) + 1)
		}
		got, err := Read(table)
		want, wrong := modelRead(table)
		if err != wrong || !slices.Equal(got, want) {
			t.Fatalf("Read(%q) is %v, %v, and not %v, %v", table, got, err, want, wrong)
		}
		counts[err]++
		for range 4 {
			name := c.name()
			at, ok := Find(table, name)
			if model, is := modelFind(table, name); at != model || ok != is {
				t.Fatalf("Find(%q, %q) is %d, %v, and not %d, %v", table, name, at, ok, model, is)
			}
			found[ok]++
		}
	}
	if counts[api.OK] < 5000 || counts[api.ErrForm] < 5000 || found[true] < 5000 || found[false] < 5000 {
		t.Errorf("met but %v, %v", counts, found)
	}
}

// P15.5: Read of Write is the symbols; Find tells the first one of a name that is there for others, however many ways there are.
func TestThereAndBack(t *testing.T) {
	c := chance(1515)
	for range 300 {
		l := c.symbols()
		if !modelFit(l) {
			continue
		}
		for ways := 1; ways <= 64; ways++ {
			table := Write(l, ways)
			if got, err := Read(table); err != api.OK || !slices.Equal(got, l) {
				t.Fatalf("Read of Write(%v, %d) is %v, %v", l, ways, got, err)
			}
			name := c.name()
			want := slices.IndexFunc(l, func(s api.Sym) bool { return s.Name == name && s.Bind != api.SyLocal && s.Part != api.PtNone })
			at, ok := Find(table, name)
			if ok != (want >= 0) || at != max(want, 0) {
				t.Fatalf("Find of %q in Write(%v, %d) is %d, %v, and not %d", name, l, ways, at, ok, want)
			}
		}
	}
}

// 0.1: any bytes end in an answer, which is the model's.
func TestAnyBytes(t *testing.T) {
	c := chance(1)
	anyOf := func(n uint32) string {
		out := make([]byte, c.below(n))
		for i := range out {
			out[i] = oneOf(&c, byte(c.next()), byte(c.below(4)), 0, 0)
		}
		return string(out)
	}
	for range 20000 {
		zero := strings.Repeat("\x00", 16)
		table := api.Table{Syms: oneOf(&c, "", zero, zero) + anyOf(40), Strs: anyOf(20), Hash: anyOf(40)}
		name := oneOf(&c, anyOf(40), "a")
		got, err := Read(table)
		if want, wrong := modelRead(table); err != wrong || !slices.Equal(got, want) {
			t.Fatalf("Read(%q) is %v, %v", table, got, err)
		}
		at, ok := Find(table, name)
		if model, is := modelFind(table, name); at != model || ok != is {
			t.Fatalf("Find(%q, %q) is %d, %v", table, name, at, ok)
		}
	}
}
