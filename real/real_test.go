package real

import (
	"math"
	"math/big"
	"testing"

	"ferry/api"
)

const (
	minus = 1 << 63
	one   = 1023 << 52
	two   = 1024 << 52
	half  = 1022 << 52
	inf   = 2047 << 52
	least = 1                  // the least number above nought
	small = 1<<52 - 1          // the greatest one of RlSmall
	plain = 1 << 52            // the least one of RlPlain
	great = 0x7fefffffffffffff // the greatest one of RlPlain
	still = 0x7ff8000000000000 // the quiet one
	loud  = 0x7ff0000000000001 // RlNone, not the quiet one
)

// nones are numbers of RlNone: the quiet one and others, with either sign.
var nones = []uint64{still, still | minus, loud, loud | minus, 0x7ff8000000000001, 0x7ff7ffffffffffff, 0x7fffffffffffffff, math.MaxUint64}

// wrongWays are ways to round that are none.
var wrongWays = []int{-1, -2, 4, 5, 100, math.MinInt, math.MaxInt, 1 << 32, math.MinInt32}

var rightWays = []int{api.RdCut, api.RdDown, api.RdUp, api.RdEven}

// f is a number's bits.
func f(x float64) uint64 { return math.Float64bits(x) }

// edges are numbers at the edges of each class, without a sign and with one, none of them RlNone.
func edges() []uint64 {
	list := []uint64{0, least, 2, 3, small - 1, small, plain, plain + 1, 2 << 52, half - 1, half, half + 1, one - 1, one, one + 1,
		f(1.5), two - 1, two, f(2.5), f(3), f(3.5), f(0.1), f(10), f(1e300), f(1e-300), great - 1, great, inf,
		f(1<<31 - 1.5), f(1<<31 - 1), f(1<<31 - 0.5), f(1<<31) - 1, f(1 << 31), f(1<<31) + 1, f(1<<31 + 0.5), f(1<<31 + 1), f(1<<31 + 1.5),
		f(1 << 32), f(1 << 51), f(1<<51 + 0.5), f(1<<51 + 1.5), f(1<<52 - 0.5), f(1<<52 - 1.5), f(1 << 52), f(1<<52 + 1), f(1 << 53), f(1 << 54), f(1 << 63)}
	out := list
	for _, a := range list {
		out = append(out, a|minus)
	}
	return out
}

// some are numbers of all classes: the edges, RlNone, and bits from a simple rule, near to 1 and far.
func some() []uint64 {
	out := append(edges(), nones...)
	next := uint64(12345)
	for i := range 120 {
		next = next*6364136223846793005 + 1442695040888963407
		a := next
		if i%2 == 0 { // an exponent about 1, so that sums and parts behind the point matter
			a = a&(minus|1<<52-1) | (1003+a>>53%60)<<52
		}
		out = append(out, a)
	}
	return out
}

// isNone tells RlNone from the sentence: all bits of the exponent, and one behind the point.
func isNone(a uint64) bool { return a&^minus > inf }

// value is a number that is finite, exactly.
func value(t *testing.T, a uint64) *big.Rat {
	t.Helper()
	r := new(big.Rat).SetFloat64(math.Float64frombits(a))
	if r == nil {
		t.Fatalf("%016x is not finite", a)
	}
	return r
}

// P2.1: Class, on both sides of each edge, with either sign.
func TestClass(t *testing.T) {
	rows := []struct {
		a    uint64
		want int
	}{
		{0, api.RlZero},
		{least, api.RlSmall}, {1 << 51, api.RlSmall}, {small, api.RlSmall},
		{plain, api.RlPlain}, {plain + 1, api.RlPlain}, {one, api.RlPlain}, {one + 1, api.RlPlain}, {2046 << 52, api.RlPlain}, {great, api.RlPlain},
		{inf, api.RlInf},
		{loud, api.RlNone}, {still, api.RlNone}, {still + 1, api.RlNone}, {0x7fffffffffffffff, api.RlNone},
	}
	for _, r := range rows {
		for _, a := range []uint64{r.a, r.a | minus} {
			if got := Class(a); got != r.want {
				t.Errorf("Class(%016x) = %d, not %d", a, got, r.want)
			}
		}
	}
}

// P2.1: Class of any bits, as the library sees them.
func TestClassOfAny(t *testing.T) {
	for _, a := range some() {
		x := math.Abs(math.Float64frombits(a))
		want := api.RlPlain
		switch {
		case x != x:
			want = api.RlNone
		case math.IsInf(x, 0):
			want = api.RlInf
		case x == 0:
			want = api.RlZero
		case x < 0x1p-1022:
			want = api.RlSmall
		}
		if got := Class(a); got != want {
			t.Errorf("Class(%016x) = %d, not %d", a, got, want)
		}
	}
}

// P2.1: Order.
func TestOrder(t *testing.T) {
	rows := []struct {
		a, b uint64
		want int
	}{
		{0, 0, 0}, {0, minus, 0}, {minus, 0, 0}, {minus, minus, 0},
		{one, one, 0}, {one, two, -1}, {two, one, 1},
		{one | minus, two | minus, 1}, {two | minus, one | minus, -1}, {one | minus, one, -1}, {one, one | minus, 1},
		{0, least, -1}, {minus, least, -1}, {0, least | minus, 1}, {minus, least | minus, 1}, {least | minus, least, -1},
		{small, plain, -1}, {plain, small, 1}, {great, inf, -1}, {inf, great, 1},
		{inf, inf, 0}, {inf | minus, inf | minus, 0}, {inf | minus, inf, -1}, {inf | minus, great | minus, -1},
	}
	for _, r := range rows {
		if got := Order(r.a, r.b); got != r.want {
			t.Errorf("Order(%016x, %016x) = %d, not %d", r.a, r.b, got, r.want)
		}
	}
}

// P2.1: Order of any two, which bits without the sign keep; 2 if one is RlNone, whichever and with whatever bits.
func TestOrderOfAny(t *testing.T) {
	key := func(a uint64) int64 {
		if a&minus != 0 {
			return -int64(a &^ minus)
		}
		return int64(a)
	}
	for _, a := range some() {
		for _, b := range some() {
			want := 0
			switch x, y := key(a), key(b); {
			case isNone(a) || isNone(b):
				want = 2
			case x < y:
				want = -1
			case x > y:
				want = 1
			}
			if got := Order(a, b); got != want {
				t.Fatalf("Order(%016x, %016x) = %d, not %d", a, b, got, want)
			}
		}
	}
}

// P2.2: Add, Mul and Div: the chapter's examples, noughts with either sign, the infinities, the edges of the classes, ties.
func TestMade(t *testing.T) {
	const neg = minus
	rows := []struct {
		name string
		work func(a, b uint64) uint64
		a, b uint64
		want uint64
	}{
		{"Add", Add, inf, inf | neg, still},
		{"Add", Add, inf | neg, inf, still},
		{"Add", Add, inf, inf, inf},
		{"Add", Add, inf | neg, great, inf | neg},
		{"Add", Add, one, one, two},
		{"Add", Add, f(0.1), f(0.2), 0x3fd3333333333334},
		{"Add", Add, 0, 0, 0},
		{"Add", Add, 0, neg, 0},
		{"Add", Add, neg, 0, 0},
		{"Add", Add, neg, neg, neg},
		{"Add", Add, one, one | neg, 0},
		{"Add", Add, one | neg, one, 0},
		{"Add", Add, small, least, plain},
		{"Add", Add, plain, least | neg, small},
		{"Add", Add, least, least, 2},
		{"Add", Add, great, great, inf},
		{"Add", Add, great, f(0x1p969), great},
		{"Add", Add, great, f(0x1p970), inf}, // half of the last place: a tie, up to the even one
		{"Add", Add, great | neg, f(0x1p970) | neg, inf | neg},
		{"Add", Add, one, f(0x1p-53), one}, // a tie, to the even one below
		{"Add", Add, one + 1, f(0x1p-53), one + 2},
		{"Add", Add, one, f(0x1p-53) + 1, one + 1},
		{"Mul", Mul, two, f(3), f(6)},
		{"Mul", Mul, two | neg, f(3), f(-6)},
		{"Mul", Mul, 0, neg, neg},
		{"Mul", Mul, neg, neg, 0},
		{"Mul", Mul, one | neg, 0, neg},
		{"Mul", Mul, inf, 0, still},
		{"Mul", Mul, neg, inf, still},
		{"Mul", Mul, inf, inf | neg, inf | neg},
		{"Mul", Mul, inf, least | neg, inf | neg},
		{"Mul", Mul, great, two, inf},
		{"Mul", Mul, plain, half, 1 << 51},
		{"Mul", Mul, least, half, 0}, // a tie, to the even one
		{"Mul", Mul, 3, half, 2},
		{"Mul", Mul, least | neg, half, neg},
		{"Mul", Mul, least, half + 1, least},
		{"Div", Div, one | neg, 0, inf | neg},
		{"Div", Div, one, 0, inf},
		{"Div", Div, one, neg, inf | neg},
		{"Div", Div, least | neg, neg, inf},
		{"Div", Div, inf, 0, inf},
		{"Div", Div, inf, neg, inf | neg},
		{"Div", Div, 0, 0, still},
		{"Div", Div, neg, 0, still},
		{"Div", Div, inf, inf, still},
		{"Div", Div, inf, inf | neg, still},
		{"Div", Div, one, inf | neg, neg},
		{"Div", Div, 0, one | neg, neg},
		{"Div", Div, neg, inf | neg, 0},
		{"Div", Div, one, f(3), 0x3fd5555555555555},
		{"Div", Div, f(6), two, f(3)},
		{"Div", Div, plain, two, 1 << 51},
		{"Div", Div, least, two, 0},
		{"Div", Div, great, half, inf},
	}
	for _, r := range rows {
		if got := r.work(r.a, r.b); got != r.want {
			t.Errorf("%s(%016x, %016x) = %016x, not %016x", r.name, r.a, r.b, got, r.want)
		}
	}
}

// P2.2: the quiet one, if one of both is RlNone, whatever bits and whatever sign it has.
func TestMadeOfNone(t *testing.T) {
	for _, none := range nones {
		for _, b := range some() {
			for _, got := range []uint64{Add(none, b), Add(b, none), Mul(none, b), Mul(b, none), Div(none, b), Div(b, none)} {
				if got != still {
					t.Fatalf("%016x with %016x makes %016x", none, b, got)
				}
			}
		}
	}
}

// nearest is the number that is nearest to an exact one, ties to even; sign tells of which sign a nought is.
func nearest(exact *big.Rat, sign uint64) uint64 {
	if exact.Sign() == 0 {
		return sign
	}
	x, _ := exact.Float64()
	return f(x)
}

// P2.2: sums, products and quotients of finite numbers, held against exact ones.
func TestMadeExactly(t *testing.T) {
	var finite []uint64
	for _, a := range some() {
		if a&inf != inf {
			finite = append(finite, a)
		}
	}
	for _, a := range finite {
		x := value(t, a)
		for _, b := range finite {
			y, exact := value(t, b), new(big.Rat)
			// A sum is nought of two noughts, or of two signs: only two noughts with a sign have it.
			if got, want := Add(a, b), nearest(exact.Add(x, y), a&b&minus); got != want {
				t.Fatalf("Add(%016x, %016x) = %016x, not %016x", a, b, got, want)
			}
			if got, want := Mul(a, b), nearest(exact.Mul(x, y), (a^b)&minus); got != want {
				t.Fatalf("Mul(%016x, %016x) = %016x, not %016x", a, b, got, want)
			}
			if y.Sign() == 0 {
				continue
			}
			if got, want := Div(a, b), nearest(exact.Quo(x, y), (a^b)&minus); got != want {
				t.Fatalf("Div(%016x, %016x) = %016x, not %016x", a, b, got, want)
			}
		}
	}
}

// P2.3: Min and Max.
func TestMinMax(t *testing.T) {
	rows := []struct{ a, b, min, max uint64 }{
		{0, minus, minus, 0},
		{0, 0, 0, 0},
		{minus, minus, minus, minus},
		{one, two, one, two},
		{one | minus, two | minus, two | minus, one | minus},
		{one, one | minus, one | minus, one},
		{one | minus, one | minus, one | minus, one | minus},
		{0, least, 0, least},
		{minus, least, minus, least},
		{0, least | minus, least | minus, 0},
		{small, plain, small, plain},
		{great, inf, great, inf},
		{inf | minus, great | minus, inf | minus, great | minus},
		{inf, inf | minus, inf | minus, inf},
		{still, two | minus, two | minus, two | minus},
		{loud, minus, minus, minus},
		{loud | minus, 0, 0, 0},
		{still + 1, inf, inf, inf},
		{still + 1, inf | minus, inf | minus, inf | minus},
		{still, still, still, still},
		{loud, loud, still, still},
		{loud, still + 1, still, still},
		{math.MaxUint64, loud | minus, still, still},
	}
	for _, r := range rows {
		if Min(r.a, r.b) != r.min || Min(r.b, r.a) != r.min {
			t.Errorf("Min of %016x, %016x: %016x, turned %016x, not %016x", r.a, r.b, Min(r.a, r.b), Min(r.b, r.a), r.min)
		}
		if Max(r.a, r.b) != r.max || Max(r.b, r.a) != r.max {
			t.Errorf("Max of %016x, %016x: %016x, turned %016x, not %016x", r.a, r.b, Max(r.a, r.b), Max(r.b, r.a), r.max)
		}
	}
}

// P2.3, P2.7: Min and Max are one of both, and the lesser and the greater; the other one beside RlNone, and of two of them the quiet one.
func TestMinMaxAreOneOfBoth(t *testing.T) {
	for _, a := range some() {
		for _, b := range some() {
			low, high := Min(a, b), Max(a, b)
			switch {
			case isNone(a) && isNone(b):
				if low != still || high != still {
					t.Fatalf("%016x, %016x: Min %016x, Max %016x, not the quiet one", a, b, low, high)
				}
			case isNone(a):
				if low != b || high != b {
					t.Fatalf("%016x, %016x: Min %016x, Max %016x, not the other", a, b, low, high)
				}
			case isNone(b):
				if low != a || high != a {
					t.Fatalf("%016x, %016x: Min %016x, Max %016x, not the other", a, b, low, high)
				}
			case !(low == a && high == b || low == b && high == a) || Order(low, high) == 1 || low&minus < high&minus:
				t.Fatalf("%016x, %016x: Min %016x, Max %016x", a, b, low, high)
			}
		}
	}
}

// P2.4: Round by each way, with either sign: what is told for a is told for -a with the sign, by the way turned about.
func TestRound(t *testing.T) {
	rows := []struct{ a, cut, down, up, even float64 }{
		{0, 0, 0, 0, 0},
		{0x1p-1074, 0, 0, 1, 0},
		{0x1p-1023, 0, 0, 1, 0},
		{0x1p-1022, 0, 0, 1, 0},
		{0.25, 0, 0, 1, 0},
		{math.Nextafter(0.5, 0), 0, 0, 1, 0},
		{0.5, 0, 0, 1, 0},
		{math.Nextafter(0.5, 1), 0, 0, 1, 1},
		{math.Nextafter(1, 0), 0, 0, 1, 1},
		{1, 1, 1, 1, 1},
		{math.Nextafter(1, 2), 1, 1, 2, 1},
		{1.5, 1, 1, 2, 2},
		{2, 2, 2, 2, 2},
		{2.5, 2, 2, 3, 2},
		{3.5, 3, 3, 4, 4},
		{3.75, 3, 3, 4, 4},
		{1<<31 - 0.5, 1<<31 - 1, 1<<31 - 1, 1 << 31, 1 << 31},
		{1<<31 + 0.5, 1 << 31, 1 << 31, 1<<31 + 1, 1 << 31},
		{1<<51 + 0.5, 1 << 51, 1 << 51, 1<<51 + 1, 1 << 51},
		{1<<51 + 1.5, 1<<51 + 1, 1<<51 + 1, 1<<51 + 2, 1<<51 + 2},
		{1<<52 - 0.5, 1<<52 - 1, 1<<52 - 1, 1 << 52, 1 << 52},
		{1 << 52, 1 << 52, 1 << 52, 1 << 52, 1 << 52},
		{1<<52 + 1, 1<<52 + 1, 1<<52 + 1, 1<<52 + 1, 1<<52 + 1},
		{1 << 63, 1 << 63, 1 << 63, 1 << 63, 1 << 63},
		{math.MaxFloat64, math.MaxFloat64, math.MaxFloat64, math.MaxFloat64, math.MaxFloat64},
	}
	for _, r := range rows {
		wants := []struct {
			a    uint64
			way  int
			want uint64
		}{
			{f(r.a), api.RdCut, f(r.cut)}, {f(r.a), api.RdDown, f(r.down)}, {f(r.a), api.RdUp, f(r.up)}, {f(r.a), api.RdEven, f(r.even)},
			{f(r.a) | minus, api.RdCut, f(r.cut) | minus}, {f(r.a) | minus, api.RdDown, f(r.up) | minus},
			{f(r.a) | minus, api.RdUp, f(r.down) | minus}, {f(r.a) | minus, api.RdEven, f(r.even) | minus},
		}
		for _, w := range wants {
			if got := Round(w.a, w.way); got != w.want {
				t.Errorf("Round(%016x, %d) = %016x, not %016x", w.a, w.way, got, w.want)
			}
		}
	}
}

// P2.4: the chapter's examples.
func TestRoundExamples(t *testing.T) {
	if got := Round(half|minus, api.RdUp); got != minus {
		t.Errorf("-0.5 upwards: %016x", got)
	}
	if got := Round(f(2.5), api.RdEven); got != two {
		t.Errorf("2.5 to the even one: %016x", got)
	}
}

// P2.4: RlInf is itself and RlNone the quiet one by every way; anything else is itself by a way that is none.
func TestRoundOfOthers(t *testing.T) {
	for _, way := range append(append([]int{}, rightWays...), wrongWays...) {
		for _, a := range []uint64{inf, inf | minus} {
			if got := Round(a, way); got != a {
				t.Errorf("Round(%016x, %d) = %016x", a, way, got)
			}
		}
		for _, a := range nones {
			if got := Round(a, way); got != still {
				t.Errorf("Round(%016x, %d) = %016x, not the quiet one", a, way, got)
			}
		}
	}
	for _, way := range wrongWays {
		for _, a := range edges() {
			if got := Round(a, way); got != a {
				t.Errorf("Round(%016x, %d) = %016x, not itself", a, way, got)
			}
		}
	}
}

// rounded is the whole number of an exact one by a way.
func rounded(x *big.Rat, way int) *big.Int {
	down := new(big.Int).Div(x.Num(), x.Denom()) // Euclid's: downwards, as Denom is above 0
	above := new(big.Rat).Sub(x, new(big.Rat).SetInt(down))
	up := new(big.Int).Add(down, big.NewInt(1))
	if above.Sign() == 0 {
		return down
	}
	switch way {
	case api.RdDown:
		return down
	case api.RdUp:
		return up
	case api.RdCut:
		if x.Sign() < 0 {
			return up
		}
		return down
	}
	if c := above.Cmp(big.NewRat(1, 2)); c > 0 || c == 0 && down.Bit(0) == 1 {
		return up
	}
	return down
}

// P2.4: Round of finite numbers, held against exact ones; the sign stays.
func TestRoundExactly(t *testing.T) {
	for _, a := range some() {
		if a&inf == inf {
			continue
		}
		for _, way := range rightWays {
			exact := rounded(value(t, a), way)
			want := nearest(new(big.Rat).SetInt(exact), a&minus)
			if got := Round(a, way); got != want || got&minus != a&minus {
				t.Errorf("Round(%016x, %d) = %016x, not %016x", a, way, got, want)
			}
		}
	}
}

// P2.5: Int, at the ends of 32 bits with a sign, and of what is no such number.
func TestInt(t *testing.T) {
	rows := []struct {
		a    uint64
		want int32
		ok   bool
	}{
		{0, 0, true}, {minus, 0, true},
		{least, 0, true}, {least | minus, 0, true}, {small, 0, true}, {plain | minus, 0, true},
		{half, 0, true}, {half | minus, 0, true}, {one - 1, 0, true}, {(one - 1) | minus, 0, true},
		{one, 1, true}, {one | minus, -1, true}, {f(2.5), 2, true}, {f(-2.5), -2, true}, {f(-3.999), -3, true},
		{f(1<<31 - 1), 1<<31 - 1, true}, {f(1<<31 - 0.5), 1<<31 - 1, true}, {f(1<<31) - 1, 1<<31 - 1, true},
		{1054 << 52, 1<<31 - 1, false}, {f(1<<31) + 1, 1<<31 - 1, false}, {f(1<<31 + 1), 1<<31 - 1, false},
		{f(-1<<31 + 1), -1<<31 + 1, true}, {f(-1 << 31), -1 << 31, true}, {f(-1<<31 - 0.5), -1 << 31, true}, {f(-1<<31-1) - 1, -1 << 31, true},
		{f(-1<<31 - 1), 1<<31 - 1, false}, {f(-1<<31-1) + 1, 1<<31 - 1, false}, {f(-1 << 32), 1<<31 - 1, false},
		{f(1 << 32), 1<<31 - 1, false}, {f(1<<32 + 5), 1<<31 - 1, false}, {f(1 << 63), 1<<31 - 1, false}, {f(1 << 64), 1<<31 - 1, false},
		{great, 1<<31 - 1, false}, {great | minus, 1<<31 - 1, false},
		{inf, 1<<31 - 1, false}, {inf | minus, 1<<31 - 1, false},
	}
	for _, a := range nones {
		rows = append(rows, struct {
			a    uint64
			want int32
			ok   bool
		}{a, 1<<31 - 1, false})
	}
	for _, r := range rows {
		if got, ok := Int(r.a); got != r.want || ok != r.ok {
			t.Errorf("Int(%016x) = %d, %v, not %d, %v", r.a, got, ok, r.want, r.ok)
		}
	}
}

// P2.5: Int of finite numbers is what RdCut tells exactly, if 32 bits with a sign have it.
func TestIntExactly(t *testing.T) {
	for _, a := range some() {
		if a&inf == inf {
			continue
		}
		cut := rounded(value(t, a), api.RdCut)
		want, fits := int32(math.MaxInt32), cut.IsInt64() && cut.Int64() >= math.MinInt32 && cut.Int64() <= math.MaxInt32
		if fits {
			want = int32(cut.Int64())
		}
		if got, ok := Int(a); got != want || ok != fits {
			t.Errorf("Int(%016x) = %d, %v, not %d, %v", a, got, ok, want, fits)
		}
	}
}

// ints are numbers of 32 bits with a sign, the ends and nought among them.
func ints() []int32 {
	out := []int32{0, 1, -1, 2, -2, 3, 255, 256, -256, 1 << 24, 1<<24 + 1, 1<<30 - 1, math.MaxInt32 - 1, math.MaxInt32, math.MinInt32, math.MinInt32 + 1}
	next := uint32(12345)
	for range 100 {
		next = next*1664525 + 1013904223
		out = append(out, int32(next))
	}
	return out
}

// P2.5: Of.
func TestOf(t *testing.T) {
	rows := []struct {
		n    int32
		want uint64
	}{
		{0, 0}, {1, one}, {-1, one | minus}, {2, two}, {3, 0x4008000000000000}, {-5, 0xc014000000000000},
		{math.MaxInt32, 0x41dfffffffc00000}, {math.MinInt32, 0xc1e0000000000000}, {1<<24 + 1, 0x4170000010000000},
	}
	for _, r := range rows {
		if got := Of(r.n); got != r.want {
			t.Errorf("Of(%d) = %016x, not %016x", r.n, got, r.want)
		}
	}
}

// P2.5, P2.7: Int of Of is the number; and no other number is exactly it.
func TestIntOfOf(t *testing.T) {
	for _, n := range ints() {
		a := Of(n)
		if got, ok := Int(a); got != n || !ok {
			t.Errorf("Int(Of(%d)) = %d, %v", n, got, ok)
		}
		if value(t, a).Cmp(new(big.Rat).SetInt64(int64(n))) != 0 || n == 0 && a != 0 {
			t.Errorf("Of(%d) = %016x", n, a)
		}
	}
}

// P2.6: sums and products do not hang on the order, in any bit.
func TestOrderOfBothIsNothing(t *testing.T) {
	for _, a := range some() {
		for _, b := range some() {
			if Add(a, b) != Add(b, a) || Mul(a, b) != Mul(b, a) {
				t.Fatalf("%016x, %016x: sums %016x, %016x, products %016x, %016x", a, b, Add(a, b), Add(b, a), Mul(a, b), Mul(b, a))
			}
		}
	}
}

// P2.6: a number times 1, and by 1, is it; and less itself is nought, unless it is RlInf or RlNone.
func TestOneAndLessItself(t *testing.T) {
	for _, a := range some() {
		times, by, less := Mul(a, one), Div(a, one), Add(a, a^minus)
		if isNone(a) {
			if times != still || by != still || less != still {
				t.Errorf("%016x: times 1 %016x, by 1 %016x, less itself %016x", a, times, by, less)
			}
			continue
		}
		if times != a || Mul(one, a) != a || by != a {
			t.Errorf("%016x: times 1 %016x, by 1 %016x", a, times, by)
		}
		if a&^minus == inf {
			if less != still {
				t.Errorf("%016x less itself: %016x", a, less)
			}
		} else if less != 0 {
			t.Errorf("%016x less itself: %016x", a, less)
		}
	}
}

// P2.7: Round of Round is Round, by every way.
func TestRoundTwice(t *testing.T) {
	for _, a := range some() {
		for _, way := range append(append([]int{}, rightWays...), wrongWays...) {
			once := Round(a, way)
			if got := Round(once, way); got != once {
				t.Errorf("Round(%016x, %d) = %016x, twice %016x", a, way, once, got)
			}
		}
	}
}
