package tests

import (
	"math"
	"math/big"
	"testing"

	"loop.example/g00062/impl"
)

const (
	oneNaN      = uint64(9221120237041090560)
	oneShortNaN = uint32(2143289344)
	signBit     = uint64(1) << 63
	infBits     = uint64(0x7FF) << 52
	shortInf    = uint32(0xFF) << 23
	shortMost   = shortInf - 1
)

func nanRows() []uint64 {
	return []uint64{
		infBits + 1, infBits + 2, infBits + 1<<51 - 1, infBits + 1<<51, infBits + 1<<51 + 1, infBits + 1<<52 - 1,
		signBit + infBits + 1, signBit + infBits + 1<<51, math.MaxUint64,
	}
}

func shortNaNRows() []uint32 {
	return []uint32{
		shortInf + 1, shortInf + 1<<22 - 1, shortInf + 1<<22, shortInf + 1<<22 + 1, shortInf + 1<<23 - 1,
		1<<31 + shortInf + 1, 1<<31 + shortInf + 1<<22, math.MaxUint32,
	}
}

// floatRows: bits of floats that are no NaN, no two alike: both signs of noughts, least, greatest and infinite ones,
// and each exponent with several fractions.
func floatRows() []uint64 {
	var rows []uint64
	for exponent := uint64(0); exponent < 0x7FF; exponent++ {
		for _, fraction := range []uint64{0, 1, 1 << 28, 1<<29 - 1, 1 << 51, 1<<52 - 1} {
			row := exponent<<52 + fraction
			rows = append(rows, row, signBit+row)
		}
	}
	return append(rows, infBits, signBit+infBits)
}

func TestP1BitsComeBack(t *testing.T) {
	for _, row := range floatRows() {
		x := impl.FloatOf(row)
		if x != x || impl.BitsOf(x) != row || math.Float64bits(x) != row {
			t.Fatal("bits do not come back", row, x)
		}
		if !impl.Same(impl.FloatOf(impl.BitsOf(x)), x) {
			t.Fatal("the float does not come back", x)
		}
	}
	for _, row := range nanRows() {
		x := impl.FloatOf(row)
		if x == x || impl.BitsOf(x) != oneNaN {
			t.Error("a NaN's bits", row, x, impl.BitsOf(x))
		}
		if b := impl.BitsOf(math.Float64frombits(row)); b != oneNaN {
			t.Error("a NaN from elsewhere", row, b)
		}
	}
}

func TestP1BitsOfTold(t *testing.T) {
	for _, c := range []struct {
		x    float64
		bits uint64
	}{
		{0, 0},
		{math.Copysign(0, -1), signBit},
		{math.SmallestNonzeroFloat64, 1},
		{-math.SmallestNonzeroFloat64, signBit + 1},
		{2.2250738585072014e-308, 1 << 52},
		{1, 1023 << 52},
		{-1.5, signBit + 1023<<52 + 1<<51},
		{math.MaxFloat64, infBits - 1},
		{math.Inf(1), infBits},
		{math.Inf(-1), signBit + infBits},
		{math.NaN(), oneNaN},
	} {
		if b := impl.BitsOf(c.x); b != c.bits {
			t.Error("BitsOf", c.x, b, c.bits)
		}
		if x := impl.FloatOf(c.bits); math.Float64bits(x) != c.bits && c.bits != oneNaN {
			t.Error("FloatOf", c.bits, x, c.x)
		}
	}
}

func TestP1SameAndKnown(t *testing.T) {
	edges := []uint64{0, 1, 2, 1 << 52, 1023 << 52, 1023<<52 + 1, infBits - 1, infBits}
	var list []float64
	for _, e := range edges {
		list = append(list, math.Float64frombits(e), math.Float64frombits(signBit+e))
	}
	for i, a := range list {
		for j, b := range list {
			if impl.Same(a, b) != (i == j) {
				t.Error("Same", a, b)
			}
		}
		if impl.Known(a) == math.IsInf(a, 0) {
			t.Error("Known", a)
		}
	}
	for _, row := range nanRows() {
		x := math.Float64frombits(row)
		if impl.Known(x) {
			t.Error("a NaN is known", row)
		}
		for _, other := range nanRows() {
			if !impl.Same(x, math.Float64frombits(other)) {
				t.Error("two NaNs are not the same", row, other)
			}
		}
		for _, a := range list {
			if impl.Same(x, a) || impl.Same(a, x) {
				t.Error("a NaN is the same as", a)
			}
		}
	}
}

// shortValue: what a float32 with these bits is, by its parts: a whole number times a power of 2, both exact.
func shortValue(bits uint32) float64 {
	fraction, exponent := float64(bits&(1<<23-1)), int(bits>>23&0xFF)
	if exponent > 0 {
		fraction += 1 << 23
		exponent--
	}
	x := math.Ldexp(fraction, exponent-149)
	if bits>>31 == 1 {
		x = math.Copysign(x, -1)
	}
	return x
}

func TestP1ShortIsReadBack(t *testing.T) {
	try := func(bits uint32) {
		want := shortValue(bits)
		x := impl.Long(bits)
		if math.Float64bits(x) != math.Float64bits(want) {
			t.Fatal("Long", bits, x, want)
		}
		if b := impl.Short(x); b != bits {
			t.Fatal("Short of Long", bits, b)
		}
	}
	for bits := uint32(0); bits < shortInf-8191; bits += 8191 {
		try(bits)
		try(1<<31 + bits)
	}
	for _, bits := range []uint32{0, 1, 2, 3, 1<<23 - 1, 1 << 23, 1<<23 + 1, 127 << 23, shortMost - 1, shortMost} {
		try(bits)
		try(1<<31 + bits)
	}
	for _, sign := range []int{1, -1} {
		bits := shortInf
		if sign < 0 {
			bits += 1 << 31
		}
		if x := impl.Long(bits); !math.IsInf(x, sign) || impl.Short(x) != bits {
			t.Error("infinite", sign, x)
		}
	}
}

func TestP1ShortNaNs(t *testing.T) {
	for _, row := range shortNaNRows() {
		if x := impl.Long(row); x == x || impl.BitsOf(x) != oneNaN || impl.Short(x) != oneShortNaN {
			t.Error("Long of a NaN", row, x)
		}
	}
	for _, row := range nanRows() {
		if b := impl.Short(math.Float64frombits(row)); b != oneShortNaN {
			t.Error("Short of a NaN", row, b)
		}
	}
}

// shortBoth tries x and its opposite.
func shortBoth(t *testing.T, x float64, want uint32) {
	t.Helper()
	if b := impl.Short(x); b != want {
		t.Error("Short", x, b, want)
	}
	if b := impl.Short(-x); b != want+1<<31 {
		t.Error("Short", -x, b, want+1<<31)
	}
}

func TestP1ShortHalfWay(t *testing.T) {
	lows := []uint32{0, 1, 2, 3, 1<<22 - 1, 1<<23 - 2, 1<<23 - 1, 1 << 23, 1<<24 - 1, 1 << 24, 127<<23 - 1, 127 << 23, 127<<23 + 1, shortMost - 2, shortMost - 1}
	for low := uint32(5); low < shortMost; low += 99991 {
		lows = append(lows, low)
	}
	for _, low := range lows {
		half := (shortValue(low) + shortValue(low+1)) / 2
		even := low + low%2
		shortBoth(t, half, even)
		shortBoth(t, math.Nextafter(half, 0), low)
		shortBoth(t, math.Nextafter(half, math.Inf(1)), low+1)
	}
}

func TestP1ShortEnds(t *testing.T) {
	beyond := math.Ldexp(1, 128)
	half := beyond - math.Ldexp(1, 103)
	shortBoth(t, math.Nextafter(half, 0), shortMost)
	shortBoth(t, half, shortInf)
	shortBoth(t, math.Nextafter(half, beyond), shortInf)
	shortBoth(t, 3.4028235677973362e38, shortMost)
	shortBoth(t, 3.4028235677973366e38, shortInf)
	shortBoth(t, math.MaxFloat32, shortMost)
	shortBoth(t, math.Nextafter(math.MaxFloat32, beyond), shortMost)
	shortBoth(t, beyond, shortInf)
	for above := half; above < 1e308; above *= 1.0625 {
		shortBoth(t, above, shortInf)
	}
	shortBoth(t, math.MaxFloat64, shortInf)
	shortBoth(t, math.Inf(1), shortInf)
	shortBoth(t, math.SmallestNonzeroFloat64, 0)
	shortBoth(t, math.Ldexp(1, -150), 0)
	shortBoth(t, math.Ldexp(3, -150), 2)
	shortBoth(t, math.SmallestNonzeroFloat32, 1)
	if impl.Short(0) != 0 || impl.Short(math.Copysign(0, -1)) != 1<<31 {
		t.Error("noughts")
	}
}

func edgeNumbers() []int64 {
	return []int64{
		math.MinInt64, math.MinInt64 + 1, math.MinInt64 + 2, -1 << 62, -impl.MaxPart * 7, -impl.MaxPart - 1, -impl.MaxPart, -impl.MaxPart + 1,
		-6, -4, -3, -2, -1, 0, 1, 2, 3, 4, 6, 12, 999999937, impl.MaxPart - 1, impl.MaxPart, impl.MaxPart + 1, impl.MaxPart * 2, impl.MaxPart * 7,
		1 << 62, math.MaxInt64 - 1, math.MaxInt64,
	}
}

// fracOf: the right Frac of that number, by big numbers; false when there is none.
func fracOf(r *big.Rat) (impl.Frac, bool) {
	most := big.NewInt(impl.MaxPart)
	if r.Num().CmpAbs(most) > 0 || r.Denom().Cmp(most) > 0 {
		return impl.Frac{}, false
	}
	return impl.Frac{Num: r.Num().Int64(), Den: r.Denom().Int64()}, true
}

func ratOf(f impl.Frac) *big.Rat {
	return big.NewRat(f.Num, f.Den)
}

func TestP1MakeFrac(t *testing.T) {
	for _, num := range edgeNumbers() {
		for _, den := range edgeNumbers() {
			var want impl.Frac
			var wantOk bool
			if den != 0 {
				want, wantOk = fracOf(new(big.Rat).SetFrac(big.NewInt(num), big.NewInt(den)))
			}
			if f, ok := impl.MakeFrac(num, den); f != want || ok != wantOk {
				t.Error("MakeFrac", num, den, f, ok, want, wantOk)
			}
		}
	}
}

func TestP1MakeFracTold(t *testing.T) {
	for _, c := range []struct {
		num, den int64
		want     impl.Frac
		ok       bool
	}{
		{math.MinInt64, math.MinInt64, impl.Frac{Num: 1, Den: 1}, true},
		{math.MinInt64, 1 << 62, impl.Frac{Num: -2, Den: 1}, true},
		{1 << 62, math.MinInt64, impl.Frac{Num: -1, Den: 2}, true},
		{0, math.MinInt64, impl.Frac{Num: 0, Den: 1}, true},
		{math.MinInt64, 0, impl.Frac{}, false},
		{math.MinInt64, 1, impl.Frac{}, false},
		{1, math.MinInt64, impl.Frac{}, false},
		{0, 0, impl.Frac{}, false},
		{impl.MaxPart, -1, impl.Frac{Num: -impl.MaxPart, Den: 1}, true},
		{impl.MaxPart + 1, 1, impl.Frac{}, false},
		{-impl.MaxPart - 1, 1, impl.Frac{}, false},
		{-1, -impl.MaxPart, impl.Frac{Num: 1, Den: impl.MaxPart}, true},
		{1, impl.MaxPart + 1, impl.Frac{}, false},
	} {
		if f, ok := impl.MakeFrac(c.num, c.den); f != c.want || ok != c.ok {
			t.Error("MakeFrac", c.num, c.den, f, ok)
		}
	}
}

func rightFracs() []impl.Frac {
	var list []impl.Frac
	for _, num := range edgeNumbers() {
		for _, den := range edgeNumbers() {
			if den < 1 || den > impl.MaxPart || num < -impl.MaxPart || num > impl.MaxPart {
				continue
			}
			if f := (impl.Frac{Num: num, Den: den}); ratOf(f).Denom().Int64() == den {
				list = append(list, f)
			}
		}
	}
	return list
}

func wrongFracs() []impl.Frac {
	return []impl.Frac{
		{}, {Num: 0, Den: 2}, {Num: 2, Den: 4}, {Num: -3, Den: 3}, {Num: 1, Den: -1}, {Num: 1, Den: 0}, {Num: -1, Den: -2},
		{Num: impl.MaxPart, Den: impl.MaxPart}, {Num: 1, Den: impl.MaxPart + 1}, {Num: impl.MaxPart + 1, Den: 1}, {Num: -impl.MaxPart - 1, Den: 1},
		{Num: math.MinInt64, Den: 1}, {Num: 1, Den: math.MinInt64}, {Num: math.MinInt64, Den: math.MinInt64}, {Num: math.MaxInt64, Den: 1}, {Num: 1, Den: math.MaxInt64},
	}
}

func TestP1SumsAndProducts(t *testing.T) {
	for _, a := range rightFracs() {
		for _, b := range rightFracs() {
			want, wantOk := fracOf(new(big.Rat).Add(ratOf(a), ratOf(b)))
			f, ok := impl.AddFrac(a, b)
			g, ok2 := impl.AddFrac(b, a)
			if f != want || ok != wantOk || g != want || ok2 != wantOk {
				t.Fatal("AddFrac", a, b, f, ok, g, ok2)
			}
			want, wantOk = fracOf(new(big.Rat).Mul(ratOf(a), ratOf(b)))
			f, ok = impl.MulFrac(a, b)
			g, ok2 = impl.MulFrac(b, a)
			if f != want || ok != wantOk || g != want || ok2 != wantOk {
				t.Fatal("MulFrac", a, b, f, ok, g, ok2)
			}
			if c := impl.CmpFrac(a, b); c != int64(ratOf(a).Cmp(ratOf(b))) {
				t.Fatal("CmpFrac", a, b, c)
			}
		}
	}
}

func TestP1FracTakenBack(t *testing.T) {
	for _, a := range rightFracs() {
		if f, ok := impl.MakeFrac(a.Num, a.Den); !ok || f != a {
			t.Fatal("made again", a, f, ok)
		}
		if f, ok := impl.MakeFrac(-7*a.Num, -7*a.Den); !ok || f != a {
			t.Fatal("made of more parts", a, f, ok)
		}
		for _, b := range rightFracs() {
			if sum, ok := impl.AddFrac(a, b); ok {
				if f, ok := impl.AddFrac(sum, impl.Frac{Num: -b.Num, Den: b.Den}); !ok || f != a {
					t.Fatal("a sum is not taken back", a, b, f, ok)
				}
			}
			over, ok := impl.MakeFrac(b.Den, b.Num)
			if ok != (b.Num != 0) {
				t.Fatal("turned over", b, over, ok)
			}
			if product, ok2 := impl.MulFrac(a, b); ok && ok2 {
				if f, ok := impl.MulFrac(product, over); !ok || f != a {
					t.Fatal("a product is not taken back", a, b, f, ok)
				}
			}
		}
	}
}

func TestP1FracTooGreat(t *testing.T) {
	most, least := impl.Frac{Num: impl.MaxPart, Den: 1}, impl.Frac{Num: 1, Den: impl.MaxPart}
	one, half := impl.Frac{Num: 1, Den: 1}, impl.Frac{Num: 1, Den: 2}
	for _, c := range []struct {
		add  bool
		a, b impl.Frac
	}{{true, most, one}, {true, least, one}, {true, least, impl.Frac{Num: 1, Den: impl.MaxPart - 1}}, {true, most, most}, {false, least, half}, {false, most, most}, {false, least, least}} {
		work := impl.MulFrac
		if c.add {
			work = impl.AddFrac
		}
		if f, ok := work(c.a, c.b); ok || f != (impl.Frac{}) {
			t.Error("too great", c, f, ok)
		}
	}
	if f, ok := impl.AddFrac(impl.Frac{Num: impl.MaxPart - 1, Den: 1}, one); !ok || f != most {
		t.Error("the greatest", f, ok)
	}
	if f, ok := impl.MulFrac(impl.Frac{Num: 1, Den: impl.MaxPart / 2}, half); !ok || f != least {
		t.Error("the least", f, ok)
	}
}

func TestP1WrongFracs(t *testing.T) {
	others := append(wrongFracs(), impl.Frac{Num: 0, Den: 1}, impl.Frac{Num: 1, Den: 2})
	for _, w := range wrongFracs() {
		for _, o := range others {
			for _, c := range [][2]impl.Frac{{w, o}, {o, w}} {
				if f, ok := impl.AddFrac(c[0], c[1]); ok || f != (impl.Frac{}) {
					t.Error("AddFrac", c, f, ok)
				}
				if f, ok := impl.MulFrac(c[0], c[1]); ok || f != (impl.Frac{}) {
					t.Error("MulFrac", c, f, ok)
				}
				if n := impl.CmpFrac(c[0], c[1]); n != -2 {
					t.Error("CmpFrac", c, n)
				}
			}
		}
	}
}
