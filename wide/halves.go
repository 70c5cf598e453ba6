package wide

const width = 32 // bits of a half

// work is what an instruction makes of Hi and Lo as one number; nil: it makes nothing of them. Sums and differences go round at 2^64 by themselves.
func work(name string, s, t uint32) func(both uint64) uint64 {
	switch name {
	case "mult":
		return func(uint64) uint64 { return product(s, t, signed) }
	case "multu":
		return func(uint64) uint64 { return product(s, t, unsigned) }
	case "madd":
		return func(both uint64) uint64 { return both + product(s, t, signed) }
	case "maddu":
		return func(both uint64) uint64 { return both + product(s, t, unsigned) }
	case "msub":
		return func(both uint64) uint64 { return both - product(s, t, signed) }
	case "msubu":
		return func(both uint64) uint64 { return both - product(s, t, unsigned) }
	case "div":
		return func(uint64) uint64 { return divided(s, t, signed) }
	case "divu":
		return func(uint64) uint64 { return divided(s, t, unsigned) }
	case "mthi":
		return func(both uint64) uint64 { return joined(s, low(both)) }
	case "mtlo":
		return func(both uint64) uint64 { return joined(high(both), s) }
	}
	return nil
}

// changed is two halves, behind a function that changes them as one number.
func changed(hi, lo uint32, by func(both uint64) uint64) (uint32, uint32) {
	both := by(joined(hi, lo))
	return high(both), low(both)
}

func joined(hi, lo uint32) uint64 { return uint64(hi)<<width | uint64(lo) }

func high(both uint64) uint32 { return uint32(both >> width) }

func low(both uint64) uint32 { return uint32(both) }

// signed is a number with its sign, in more bits than it has: so -2^31 by -1 is 2^31, and no case of its own.
func signed(v uint32) int64 { return int64(int32(v)) }

func unsigned(v uint32) int64 { return int64(v) }

// product is s times t, of the numbers that value reads them as. One past 2^63 goes over to below 0, and has its 64 bits all the same.
func product(s, t uint32, value func(uint32) int64) uint64 { return uint64(value(s) * value(t)) }

// divided is what is left of s by t, and the quotient, of the numbers that value reads them as.
func divided(s, t uint32, value func(uint32) int64) uint64 {
	if t == 0 {
		return joined(s, 1<<width-1)
	}
	a, b := value(s), value(t)
	return joined(uint32(a%b), uint32(a/b))
}
