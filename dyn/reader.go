package dyn

import (
	"strings"

	"ferry/api"
	"ferry/image"
	"ferry/swap"
)

const (
	wordLen = 4
	pairLen = 2 * wordLen
)

// reader asks for bytes of an image; what is wrong it throws as an api.Errno.
type reader struct {
	image api.Image
	file  string
}

// pair is two numbers: a tag and its value, a relocation's, or those that Hash begins with.
type pair struct{ first, second uint32 }

// caught is what work made; or the error that it threw.
func caught(work func() api.Dyn) (d api.Dyn, err api.Errno) {
	defer func() {
		if thrown, is := recover().(api.Errno); is {
			err = thrown
		}
	}()
	return work(), api.OK
}

// bytes is n bytes of the image.
func (r reader) bytes(at, n uint32) string {
	found, ok := image.Bytes(r.image, r.file, at, n)
	must(ok)
	return found
}

// pairs is the pairs that n bytes of the image are, which must be a multiple of a pair's.
func (r reader) pairs(at, n uint32) []pair {
	must(n%pairLen == 0)
	var list []pair
	for left := r.bytes(at, n); left != ""; left = left[pairLen:] {
		list = append(list, pairOf(left))
	}
	return list
}

// pairOf is the pair that bytes begin with.
func pairOf(bytes string) pair {
	return pair{uint32(swap.Be(bytes[:wordLen])), uint32(swap.Be(bytes[wordLen:pairLen]))}
}

// text is the name that stands at a place of all names.
func text(all string, at uint32) string {
	must(uint64(at) < uint64(len(all)))
	name, _, ended := strings.Cut(all[at:], "\x00")
	must(ended && name != "" && len(name) <= api.MaxName)
	return name
}

// isFrom tells whether a number is one from the first up to the last.
func isFrom(first, v, last uint32) bool { return v >= first && v <= last }

// must throws ErrForm, unless what must hold does.
func must(holds bool) {
	if !holds {
		panic(api.ErrForm)
	}
}
