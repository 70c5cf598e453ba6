// Package swap is layer 1: see shared/doc/01-swap.md.
package swap

import "iter"

// most is how many bytes a number has at most.
const most = 8

// Be is the number of at most 8 bytes, the highest first.
func Be(s string) uint64 { return number(s, forward(len(s))) }

// Le is the number of at most 8 bytes, the lowest first.
func Le(s string) uint64 { return number(s, backward(len(s))) }

// PutBe is a number's lowest n bytes, the highest first.
func PutBe(v uint64, n int) string { return text(v, n, backward(n)) }

// PutLe is a number's lowest n bytes, the lowest first.
func PutLe(v uint64, n int) string { return text(v, n, forward(n)) }

// Sext is a number whose lowest bits have a sign, as one of 32 bits.
func Sext(v uint32, bits int) uint32 {
	if bits < 1 || bits > 32 {
		return v
	}
	above := 32 - bits
	return uint32(int32(v<<above) >> above)
}

// Rot is a number of 32 bits, turned down.
func Rot(v uint32, n int) uint32 {
	// The lowest bits of a number below 0 are its remainder from 0 on, which % does not give.
	down := n & 31
	return v>>down | v<<(32-down)
}

// Up is a number, up to a multiple; false: that is too great.
func Up(v, by uint32) (uint32, bool) {
	if by == 0 {
		return 0, false
	}
	over := v % by
	if over == 0 {
		return v, true
	}
	up := v + (by - over)
	if up < v { // the sum went over 2^32
		return 0, false
	}
	return up, true
}

// forward hands out the places of n bytes from the first one on.
func forward(n int) iter.Seq[int] {
	return func(yield func(int) bool) {
		for i := 0; i < n; i++ {
			if !yield(i) {
				return
			}
		}
	}
}

// backward hands out the places of n bytes from the last one down.
func backward(n int) iter.Seq[int] {
	return func(yield func(int) bool) {
		for i := n - 1; i >= 0; i-- {
			if !yield(i) {
				return
			}
		}
	}
}

// number joins the bytes at places, which lead from the highest byte to the lowest.
func number(s string, places iter.Seq[int]) uint64 {
	if len(s) > most {
		return 0
	}
	var v uint64
	for at := range places {
		v = v<<8 | uint64(s[at])
	}
	return v
}

// text parts a number into n bytes; places tell which of its bytes comes next, 0 being the lowest.
func text(v uint64, n int, places iter.Seq[int]) string {
	if n < 0 || n > most {
		return ""
	}
	out := make([]byte, 0, most)
	for at := range places {
		out = append(out, byte(v>>(8*at)))
	}
	return string(out)
}
