package elf

import (
	"ferry/api"
	"ferry/swap"
)

// rest is what is left of a file.
type rest struct{ left string }

// reader takes a header off a file's beginning; what is wrong it throws as an api.Errno, ErrShort where the bytes end too early.
type reader struct{ rest }

// caught is what work made; or the error that it threw.
func caught(work func() api.Elf) (e api.Elf, err api.Errno) {
	defer func() {
		if thrown, is := recover().(api.Errno); is {
			err = thrown
		}
	}()
	return work(), api.OK
}

// header takes a fit header. A part's bytes are taken at once, as that they are there is asked ahead of what they are.
func (r *reader) header() api.Elf {
	first := reader{rest{r.take(headLen)}}
	e, count := first.head()
	list := reader{rest{r.take(count * segLen)}}
	for range count {
		e.Segs = append(e.Segs, list.segment())
	}
	must(Fit(e))
	return e
}

// head takes what stands ahead of the segments: the header without them, and how many there are.
func (r *reader) head() (api.Elf, int) {
	if r.take(len(magic)) != magic {
		panic(api.ErrMagic)
	}
	kind := r.half()
	must(kind == fixed || kind == shared)
	r.skip(atEntry())
	entry := r.word()
	r.skip(atCount())
	count := r.half()
	must(count <= most)
	r.skip(atEnd())
	return api.Elf{Shared: kind == shared, Entry: entry}, int(count)
}

// segment takes a segment, which need not be fit.
func (r *reader) segment() api.Seg {
	kind, off, at, again := r.word(), r.word(), r.word(), r.word()
	size, room, may, align := r.word(), r.word(), r.word(), r.word()
	must(at == again && may <= api.PrAll)
	return api.Seg{Kind: int(kind), Off: off, At: at, Size: size, Room: room, Prot: Prots(may), Align: align}
}

// half takes a number of two bytes.
func (r *reader) half() uint32 { return uint32(swap.Be(r.take(2))) }

// word takes a number of four bytes.
func (r *reader) word() uint32 { return uint32(swap.Be(r.take(4))) }

// skip takes bytes that must be there.
func (r *reader) skip(bytes string) { must(r.take(len(bytes)) == bytes) }

// take takes n bytes.
func (r *reader) take(n int) string {
	if n > len(r.left) {
		panic(api.ErrShort)
	}
	taken := r.left[:n]
	r.left = r.left[n:]
	return taken
}

// must throws ErrForm, unless what must hold does.
func must(holds bool) {
	if !holds {
		panic(api.ErrForm)
	}
}
