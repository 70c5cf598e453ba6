package asm

import (
	"strconv"
	"strings"

	"ferry/api"
	"ferry/dec"
	"ferry/swap"
)

// reader takes what is left of a line, from its beginning on; what is not as it must be it throws as ErrSyntax.
type reader struct{ left string }

// read is what work takes off a line; or the error that it threw.
func read[T any](line string, work func(*reader) T) (out T, e api.Errno) {
	defer func() {
		if thrown, is := recover().(api.Errno); is {
			e = thrown
		}
	}()
	return work(&reader{left: line}), api.OK
}

// must throws, unless what must hold does.
func must(holds bool) {
	if !holds {
		panic(api.ErrSyntax)
	}
}

// code takes a line's words, as bytes.
func (r *reader) code() string {
	if _, behind, is := strings.Cut(r.left, placeEnd); is {
		r.left = behind
	}
	if digits, is := strings.CutPrefix(r.left, bytesAre); is {
		r.left = digits
		return r.bytes()
	}
	w, _ := dec.Encode(r.ins())
	return swap.PutBe(uint64(w), wordBytes)
}

// bytes takes hex digits up to the end, two a byte.
func (r *reader) bytes() string {
	n := len(r.left) / 2
	must(n >= 1 && n <= wordBytes && len(r.left) == 2*n)
	var v uint64
	for at := range len(r.left) {
		digit := strings.IndexByte(hexDigits, r.left[at])
		must(digit >= 0)
		v = v<<4 | uint64(digit)
	}
	return swap.PutBe(v, n)
}

// ins takes an instruction up to the end. Writing it again tells what a number alone does not: noughts ahead, a sign too many, bits too many, something behind the end.
func (r *reader) ins() api.Ins {
	line := r.left
	i := api.Ins{Name: r.name()}
	for part := range parts(pattern(i.Name, r.left == "")) {
		switch part {
		case "s":
			i.Rs = r.number()
		case "t":
			i.Rt = r.number()
		case "d":
			i.Rd = r.number()
		case "a":
			i.Sa = r.number()
		case "i":
			i.Imm = uint32(r.number()) & (1<<immBits - 1)
		case "u":
			i.Imm = uint32(r.number())
		default:
			r.text(part)
		}
	}
	must(Line(i) == line)
	return i
}

// name takes an instruction's name.
func (r *reader) name() string {
	name, _, _ := strings.Cut(r.left, " ")
	must(dec.Form(name) != "")
	r.text(name)
	return name
}

// text takes a text that must stand there.
func (r *reader) text(s string) {
	left, is := strings.CutPrefix(r.left, s)
	must(is)
	r.left = left
}

// number takes a number, with or without a sign.
func (r *reader) number() int {
	n := 0
	for n < len(r.left) && strings.IndexByte(numberLetters, r.left[n]) >= 0 {
		n++
	}
	v, err := strconv.Atoi(r.left[:n])
	must(err == nil)
	r.left = r.left[n:]
	return v
}
