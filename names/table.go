package names

import (
	"iter"
	"strings"

	"ferry/api"
	"ferry/swap"
)

const (
	highest  = 0xf0000000 // the bits that a name's number does not keep
	mostWays = 64
	none     = 0 // the symbol 0, behind which a way has no more
	rowLen   = 16
	wordLen  = 4
	ahead    = 2 // numbers of Hash ahead of the ways
	noSym    = "\x00\x00\x00\x00\x00\x00\x00\x00\x00\x00\x00\x00\x00\x00\x00\x00"
	end      = "\x00" // behind a name
)

// isName tells whether a text can be a symbol's name.
func isName(s string) bool {
	return len(s) >= 1 && len(s) <= api.MaxName && !strings.Contains(s, end)
}

// rows is the bytes of symbols, and those of their names.
func rows(l []api.Sym) (syms, strs string) {
	var all, texts strings.Builder
	all.WriteString(noSym)
	texts.WriteString(end)
	for _, s := range l {
		all.WriteString(row(s, uint32(texts.Len())))
		texts.WriteString(s.Name + end)
	}
	return all.String(), texts.String()
}

// row is a symbol's bytes, its name standing at a place.
func row(s api.Sym, at uint32) string {
	return word(at) + word(s.Value) + word(s.Size) + swap.PutBe(uint64(s.Bind)<<4, 1) + swap.PutBe(0, 1) + swap.PutBe(uint64(s.Part), 2)
}

// symbol is the symbol of a row, which need not be fit; false: its name is not there, or the row has what no symbol's has.
func symbol(bytes, strs string) (api.Sym, bool) {
	at := wordAt(bytes, 0)
	if uint64(at) >= uint64(len(strs)) {
		return api.Sym{}, false
	}
	name, _, ended := strings.Cut(strs[at:], end)
	s := api.Sym{
		Name: name, Value: wordAt(bytes, 1), Size: wordAt(bytes, 2),
		Bind: int(bytes[12] >> 4), Part: int(swap.Be(bytes[14:])),
	}
	return s, ended && row(s, at) == bytes
}

// chains is the bytes of Hash. Symbols are laid from the last one down, so that each way's rise.
func chains(l []api.Sym, ways int) string {
	count := len(l) + 1
	numbers := make([]uint32, ahead+ways+count)
	numbers[0], numbers[1] = uint32(ways), uint32(count)
	first, next := numbers[ahead:ahead+ways], numbers[ahead+ways:]
	for n := len(l); n > none; n-- {
		w := Hash(l[n-1].Name) % uint32(ways)
		next[n], first[w] = first[w], uint32(n)
	}
	var out strings.Builder
	for _, v := range numbers {
		out.WriteString(word(v))
	}
	return out.String()
}

// way hands out the symbols of a name's way, as hash leads from one to the next, of a table with count of them, 0's too. As hash may be any bytes, it can lead round in a circle: there are no more steps than symbols.
func way(hash string, name uint32, count int) iter.Seq[int] {
	return func(yield func(int) bool) {
		ways := uint64(wordAt(hash, 0))
		if ways == 0 {
			return
		}
		at := uint64(name) % ways
		for range count {
			n := uint64(wordAt(hash, ahead+at))
			if n == none || n >= uint64(count) || !yield(int(n)) {
				return
			}
			at = ways + n
		}
	}
}

// word is a number's bytes.
func word(v uint32) string { return swap.PutBe(uint64(v), wordLen) }

// wordAt is the number behind so many others; 0, if it is not there, as 0 leads nowhere, too.
func wordAt(s string, before uint64) uint32 {
	if before >= uint64(len(s))/wordLen {
		return 0
	}
	at := before * wordLen
	return uint32(swap.Be(s[at : at+wordLen]))
}
