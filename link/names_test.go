package link

import (
	"math"
	"slices"
	"testing"

	"ferry/api"
	"ferry/names"
)

// resolves holds Resolve to an address.
func resolves(t *testing.T, what string, l []api.Module, name string, want uint32) {
	t.Helper()
	if at, ok := Resolve(l, name); !ok || at != want {
		t.Errorf("%s: %q: %#x, %v, and not %#x", what, name, at, ok, want)
	}
}

// misses holds Resolve to nothing.
func misses(t *testing.T, what string, l []api.Module, name string) {
	t.Helper()
	if at, ok := Resolve(l, name); ok || at != 0 {
		t.Errorf("%s: %q: %#x, %v, and not none", what, name, at, ok)
	}
}

// P19.1: a name's address, among no module, one, and two, of which the first counts.
func TestResolve(t *testing.T) {
	misses(t, "no module", nil, "main")
	misses(t, "no module", []api.Module{}, "")
	one := module("a", 0x1000, there("main", 0x10), there("puts", 0x20))
	two := module("b", 0x20000, there("puts", 0x300), there("exit", 0x400))
	both := []api.Module{one, two}
	resolves(t, "one module", both[:1], "main", 0x1010)
	resolves(t, "one module", both[:1], "puts", 0x1020)
	resolves(t, "one module", both[1:], "puts", 0x20300)
	misses(t, "one module", both[:1], "exit")
	resolves(t, "two", both, "main", 0x1010)
	resolves(t, "two", both, "puts", 0x1020)
	resolves(t, "two", both, "exit", 0x20400)
	resolves(t, "two, the other way round", []api.Module{two, one}, "puts", 0x20300)
	resolves(t, "two, the other way round", []api.Module{two, one}, "main", 0x1010)
	for _, name := range []string{"", "mai", "main\x00", "mains", "Main", "a", "b"} {
		misses(t, "two", both, name)
	}
	resolves(t, "eight", slices.Repeat([]api.Module{module("x", 5), one}, 4), "puts", 0x1020)
}

// P19.1: whether a module counts that has a name hangs on names.Find: only what is there for others does.
func TestResolveFinds(t *testing.T) {
	last := module("last", 0x70000, api.Sym{Name: "f", Value: 7, Bind: api.SyGlobal, Part: api.PtData})
	for what, m := range map[string]api.Module{
		"no table":          {Name: "none", Moved: 9},
		"no symbols":        module("none", 9),
		"a local one":       module("local", 9, local("f", 1, api.PtCode)),
		"one it asks for":   module("asks", 9, asked("f")),
		"one it may ask":    module("weak", 9, weak("f")),
		"a damaged table":   {Moved: 9, Dyn: api.Dyn{Table: names.Write([]api.Sym{there("f", 1)}, 3), Syms: []api.Sym{there("f", 1)}}},
		"local and nothing": module("both", 9, local("f", 1, api.PtCode), asked("f"), there("g", 1)),
	} {
		if what == "a damaged table" {
			m.Dyn.Table.Hash = "\x00\x00\x00\x00" + m.Dyn.Table.Hash[4:] // without ways
		}
		misses(t, what, []api.Module{m}, "f")
		resolves(t, what, []api.Module{m, last}, "f", 0x70007)
	}
	weakHere := api.Sym{Name: "f", Value: 3, Bind: api.SyWeak, Part: api.PtData}
	resolves(t, "a weak one ahead", []api.Module{module("weak", 9, weakHere), last}, "f", 12)
	resolves(t, "behind a local one", []api.Module{module("both", 9, local("f", 1, api.PtCode), asked("f"), there("f", 2)), last}, "f", 11)
	resolves(t, "two in one", []api.Module{module("both", 9, there("f", 4), there("f", 2))}, "f", 13)
}

// P19.1: Value and Moved count modulo 2^32, and 0 is an address, too.
func TestResolveOver(t *testing.T) {
	for _, row := range []struct{ moved, value, want uint32 }{
		{0, 0, 0}, {0, math.MaxUint32, math.MaxUint32}, {math.MaxUint32, 0, math.MaxUint32},
		{1, math.MaxUint32, 0}, {0xfffff000, 0x1004, 4}, {0xfffff000, 0xfffff008, 0xffffe008},
	} {
		m := module("m", row.moved, there("f", row.value))
		resolves(t, "one", []api.Module{m}, "f", row.want)
		isSymbols(t, "one", []api.Module{m}, m, row.want)
		own := module("m", row.moved, local("f", row.value, api.PtCode))
		isSymbols(t, "a local one", nil, own, row.want)
	}
}

// isSymbols holds Symbols to addresses.
func isSymbols(t *testing.T, what string, l []api.Module, m api.Module, want ...uint32) {
	t.Helper()
	if got, e := Symbols(l, m); e != api.OK || !slices.Equal(got, want) || len(want) == 0 && got != nil {
		t.Errorf("%s: %x, %v, and not %x", what, got, e, want)
	}
}

// noSymbols holds Symbols to ErrSymbol, and none beside it.
func noSymbols(t *testing.T, what string, l []api.Module, m api.Module) {
	t.Helper()
	if got, e := Symbols(l, m); e != api.ErrSymbol || got != nil {
		t.Errorf("%s: %x, %v", what, got, e)
	}
}

// P19.1: a module's symbols, in order: its own, those of others, and those of nobody.
func TestSymbols(t *testing.T) {
	a := module("a", 0x1000, there("main", 0x10), asked("puts"), weak("hook"), local("here", 0x30, api.PtData), local("gone", 0x40, api.PtNone), local("code", 0x50, api.PtCode))
	b := module("b", 0x20000, there("puts", 0x300), there("main", 0x400), there("here", 0x500), there("gone", 0x600))
	both := []api.Module{a, b}
	isSymbols(t, "the first", both, a, 0x1010, 0x20300, 0, 0x1030, 0, 0x1050)
	isSymbols(t, "the second: main is the first's", both, b, 0x20300, 0x1010, 0x20500, 0x20600)
	isSymbols(t, "the other way round", []api.Module{b, a}, a, 0x20400, 0x20300, 0, 0x1030, 0, 0x1050)
	isSymbols(t, "no symbols", both, module("c", 9))
	isSymbols(t, "no table", nil, api.Module{})
}

// P19.1: local ones ask nobody, weak ones may be nobody's, global ones may not.
func TestSymbolsOfNobody(t *testing.T) {
	other := []api.Module{module("other", 0x100, there("f", 1), local("g", 2, api.PtCode), asked("h"))}
	isSymbols(t, "local", other, module("m", 0x1000, local("f", 5, api.PtCode)), 0x1005)
	isSymbols(t, "local, of the data", other, module("m", 0x1000, local("f", 5, api.PtData)), 0x1005)
	isSymbols(t, "local, none", other, module("m", 0x1000, local("f", 5, api.PtNone)), 0)
	isSymbols(t, "local, among no module", nil, module("m", 0x1000, local("f", 5, api.PtCode)), 0x1005)
	for _, name := range []string{"g", "h", "i", "m", "other"} {
		isSymbols(t, "weak "+name, other, module("m", 0x1000, weak(name)), 0)
		noSymbols(t, "global "+name, other, module("m", 0x1000, asked(name)))
		noSymbols(t, "behind others "+name, other, module("m", 0x1000, asked("f"), weak("g"), local("k", 5, api.PtCode), asked(name)))
		noSymbols(t, "ahead of others "+name, other, module("m", 0x1000, asked(name), asked("f")))
	}
	isSymbols(t, "weak, and there", other, module("m", 0x1000, weak("f")), 0x101)
	isSymbols(t, "weak, its own and another's", other, module("m", 0x1000, api.Sym{Name: "f", Value: 9, Bind: api.SyWeak, Part: api.PtCode}), 0x101)
	isSymbols(t, "global, its own and another's", other, module("m", 0x1000, there("f", 9)), 0x101)
	isSymbols(t, "global, a local one's name", []api.Module{other[0], module("last", 0x2000, there("g", 8))}, module("m", 0x1000, asked("g")), 0x2008)

	mine := module("m", 0x1000, there("mine", 9))
	noSymbols(t, "its own, but it is none of the modules", other, mine)
	noSymbols(t, "its own, among no module", nil, mine)
	isSymbols(t, "its own, and it is one of them", append(other, mine), mine, 0x1009)
	isSymbols(t, "its own, weak, but it is none of the modules", other, module("m", 0x1000, api.Sym{Name: "mine", Value: 9, Bind: api.SyWeak, Part: api.PtCode}), 0)
}

// P19.1: as many symbols as there can be.
func TestManySymbols(t *testing.T) {
	var syms []api.Sym
	var want []uint32
	for i := range uint32(200) {
		syms = append(syms, there("f"+string(rune('a'+i%20))+string(rune('a'+i/20)), i*8))
		want = append(want, 0x1000+i*8)
	}
	m := module("m", 0x1000, syms...)
	isSymbols(t, "200", slices.Repeat([]api.Module{m}, api.MaxMods), m, want...)
}
