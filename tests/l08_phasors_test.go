package tests

import (
	"math"
	"slices"
	"testing"

	"loop.example/g00062/impl"
)

const third = 0.8660254037844386

func pair(re float64, im float64) impl.Pair {
	return impl.Pair{Re: re, Im: im}
}

// oddParts: parts at which a sign, a size or a rounding shows.
func oddParts() []float64 {
	return []float64{
		0, minusZero(), 1, -1.5, 1 + math.Ldexp(1, -30), -1e200, 1e-170, 5e-324, math.MaxFloat64,
		math.Inf(1), math.Inf(-1), math.NaN(),
	}
}

func oddPairs() []impl.Pair {
	var list []impl.Pair
	for _, re := range oddParts() {
		for _, im := range oddParts() {
			list = append(list, pair(re, im))
		}
	}
	return list
}

func somePairs(seed int64, n int) []impl.Pair {
	list := make([]impl.Pair, n)
	re, im := someNumbers(seed, n, -1000000, 1000000), someNumbers(seed+1, n, -1000000, 1000000)
	for i := range list {
		list[i] = pair(float64(re[i])/997, float64(im[i])/1013)
	}
	return list
}

func wantAdd(a impl.Pair, b impl.Pair) impl.Pair {
	return pair(oneOp(a.Re, '+', b.Re), oneOp(a.Im, '+', b.Im))
}

func wantSub(a impl.Pair, b impl.Pair) impl.Pair {
	return pair(oneOp(a.Re, '-', b.Re), oneOp(a.Im, '-', b.Im))
}

func wantMul(a impl.Pair, b impl.Pair) impl.Pair {
	return pair(
		oneOp(oneOp(a.Re, '*', b.Re), '-', oneOp(a.Im, '*', b.Im)),
		oneOp(oneOp(a.Re, '*', b.Im), '+', oneOp(a.Im, '*', b.Re)))
}

func wantConj(a impl.Pair) impl.Pair {
	return pair(a.Re, oneOp(0, '-', a.Im))
}

func wantNorm(a impl.Pair) float64 {
	return oneOp(oneOp(a.Re, '*', a.Re), '+', oneOp(a.Im, '*', a.Im))
}

func wantDiv(a impl.Pair, b impl.Pair) impl.Pair {
	d := wantNorm(b)
	if !(d > 0) || d > math.MaxFloat64 {
		return pair(math.NaN(), math.NaN())
	}
	m := wantMul(a, wantConj(b))
	return pair(oneOp(m.Re, '/', d), oneOp(m.Im, '/', d))
}

func sameBoth(a impl.Pair, b impl.Pair) bool {
	return impl.Same(a.Re, b.Re) && impl.Same(a.Im, b.Im)
}

func samePairs(a []impl.Pair, b []impl.Pair) bool {
	return slices.EqualFunc(a, b, sameBoth)
}

func bothNaN(a impl.Pair) bool {
	return math.IsNaN(a.Re) && math.IsNaN(a.Im)
}

// pairsSame asks all that is asked of two pairs.
func pairsSame(t *testing.T, a impl.Pair, b impl.Pair) {
	t.Helper()
	product := wantMul(a, b)
	if c := impl.MulPair(a, b); !sameBoth(c, product) {
		t.Fatal("MulPair", a, b, c, product)
	}
	if c := impl.MulPair(b, a); !sameBoth(c, product) {
		t.Fatal("the product asks which stands first", a, b, c, product)
	}
	if c, want := impl.AddPair(a, b), wantAdd(a, b); !sameBoth(c, want) {
		t.Fatal("AddPair", a, b, c, want)
	}
	if c, want := impl.SubPair(a, b), wantSub(a, b); !sameBoth(c, want) {
		t.Fatal("SubPair", a, b, c, want)
	}
	if c, want := impl.DivPair(a, b), wantDiv(a, b); !sameBoth(c, want) {
		t.Fatal("DivPair", a, b, c, want)
	}
	if c, want := impl.Power(a, b), wantMul(a, wantConj(b)); !sameBoth(c, want) {
		t.Fatal("Power", a, b, c, want)
	}
	if impl.SamePair(a, b) != sameBoth(a, b) {
		t.Fatal("SamePair", a, b)
	}
}

// pairSame asks all that is asked of one pair.
func pairSame(t *testing.T, a impl.Pair) {
	t.Helper()
	if c, want := impl.ConjPair(a), wantConj(a); !sameBoth(c, want) {
		t.Fatal("ConjPair", a, c, want)
	}
	if n, want := impl.Norm(a), wantNorm(a); !impl.Same(n, want) {
		t.Fatal("Norm", a, n, want)
	}
	if !impl.SamePair(a, a) {
		t.Fatal("a pair and itself", a)
	}
	if s := impl.Power(a, a); impl.Known(s.Im) && s.Im != 0 {
		t.Fatal("the power of a pair with itself", a, s)
	}
}

func TestP8ProductsDoNotAskWhichStandsFirst(t *testing.T) {
	odd := oddPairs()
	for _, a := range odd {
		pairSame(t, a)
		for _, b := range odd {
			pairsSame(t, a, b)
		}
	}
	for seed := range int64(4) {
		list := somePairs(10*seed, 400)
		for i := 1; i < len(list); i++ {
			pairSame(t, list[i])
			pairsSame(t, list[i-1], list[i])
		}
	}
}

func TestP8PairsTold(t *testing.T) {
	a, b := pair(1, 2), pair(3, -4)
	for _, c := range []struct {
		what      string
		got, want impl.Pair
	}{
		{"sum", impl.AddPair(a, b), pair(4, -2)}, {"difference", impl.SubPair(a, b), pair(-2, 6)},
		{"difference the other way", impl.SubPair(b, a), pair(2, -6)}, {"product", impl.MulPair(a, b), pair(11, 2)},
		{"conjugate", impl.ConjPair(a), pair(1, -2)}, {"conjugate back", impl.ConjPair(b), pair(3, 4)},
		{"quotient", impl.DivPair(pair(11, 2), b), a}, {"quotient of i", impl.DivPair(pair(0, 1), pair(0, 2)), pair(0.5, 0)},
		{"power", impl.Power(a, b), pair(-5, 10)}, {"power the other way", impl.Power(b, a), pair(-5, -10)},
	} {
		if !sameBoth(c.got, c.want) {
			t.Error(c.what, c.got, c.want)
		}
	}
	if n := impl.Norm(b); n != 25 {
		t.Error("Norm", n)
	}
}

func TestP8NoProductIsFused(t *testing.T) {
	close, twice := 1+math.Ldexp(1, -30), 1+math.Ldexp(1, -29)
	for _, c := range []struct{ a, b, want impl.Pair }{
		{pair(close, 1), pair(close, twice), pair(0, oneOp(oneOp(close, '*', twice), '+', close))},
		{pair(1, close), pair(twice, close), pair(0, oneOp(close, '+', oneOp(close, '*', twice)))},
		{pair(close, -1), pair(twice, close), pair(oneOp(oneOp(close, '*', twice), '+', close), 0)},
		{pair(-1, close), pair(close, twice), pair(oneOp(-close, '-', oneOp(close, '*', twice)), 0)},
	} {
		if m := impl.MulPair(c.a, c.b); !sameBoth(m, c.want) {
			t.Error("a product was fused", c.a, c.b, m, c.want)
		}
	}
	if s := impl.Power(pair(close, close), pair(close, close)); s.Im != 0 {
		t.Error("a power was fused", s)
	}
	if q := impl.DivPair(pair(close, 1), pair(close, -twice)); q.Re != 0 {
		t.Error("a quotient was fused", q)
	}
}

func TestP8TheSignOfNothing(t *testing.T) {
	m := minusZero()
	for _, c := range []struct {
		what      string
		got, want impl.Pair
	}{
		{"0 + -0", impl.AddPair(pair(0, m), pair(m, m)), pair(0, m)}, {"-0 + -0", impl.AddPair(pair(m, 0), pair(m, 0)), pair(m, 0)},
		{"1 - 1", impl.SubPair(pair(1, -1), pair(1, -1)), pair(0, 0)}, {"-0 - 0", impl.SubPair(pair(m, 0), pair(0, m)), pair(m, 0)},
		{"conj of 0", impl.ConjPair(pair(0, 0)), pair(0, 0)}, {"conj of -0", impl.ConjPair(pair(m, m)), pair(m, 0)},
		{"-1 times 0", impl.MulPair(pair(-1, 0), pair(0, 0)), pair(m, 0)}, {"0 times -1", impl.MulPair(pair(0, 0), pair(-1, 0)), pair(m, 0)},
		{"i times i", impl.MulPair(pair(0, 1), pair(0, 1)), pair(-1, 0)}, {"-1 times -1", impl.MulPair(pair(-1, 0), pair(-1, 0)), pair(1, m)},
		{"-1 by 1", impl.DivPair(pair(-1, 0), pair(1, 0)), pair(-1, 0)}, {"-1 by -1", impl.DivPair(pair(-1, 0), pair(-1, 0)), pair(1, m)},
		{"-0 by 1", impl.DivPair(pair(m, m), pair(1, 0)), pair(0, m)}, {"-0 by -i", impl.DivPair(pair(m, 0), pair(0, -1)), pair(m, 0)},
		{"power of -1", impl.Power(pair(-1, 0), pair(-1, 0)), pair(1, m)}, {"power of 1", impl.Power(pair(1, 0), pair(1, 0)), pair(1, 0)},
		{"power of -0", impl.Power(pair(m, m), pair(m, m)), pair(0, 0)},
	} {
		if !sameBoth(c.got, c.want) {
			t.Error(c.what, c.got, c.want, math.Signbit(c.got.Re), math.Signbit(c.got.Im))
		}
	}
	if n := impl.Norm(pair(m, m)); !impl.Same(n, 0) {
		t.Error("Norm of -0", n)
	}
}

func TestP8Divisors(t *testing.T) {
	m, inf, nan := minusZero(), math.Inf(1), math.NaN()
	for _, b := range []impl.Pair{
		pair(0, 0), pair(0, m), pair(m, 0), pair(m, m),
		// Squares that are too small, and such that are too great.
		pair(1e-170, 0), pair(0, -1e-170), pair(1.5e-162, 1.5e-162), pair(5e-324, 5e-324),
		pair(1e155, 0), pair(0, -1e155), pair(1e154, 1e154), pair(math.MaxFloat64, 1),
		pair(inf, 0), pair(0, -inf), pair(inf, inf), pair(nan, 1), pair(1, nan), pair(nan, inf), pair(nan, nan),
	} {
		for _, a := range []impl.Pair{pair(0, 0), pair(1, 2), b, pair(inf, nan)} {
			if q := impl.DivPair(a, b); !bothNaN(q) {
				t.Error("no divisor", a, b, q)
			}
		}
	}
	for _, c := range []struct{ a, b, want impl.Pair }{
		{pair(0, 0), pair(2e-162, 0), pair(0, 0)},
		{pair(3, -6), pair(1e-150, 0), wantDiv(pair(3, -6), pair(1e-150, 0))},
		{pair(2e-162, 0), pair(2e-162, 0), pair(1, 0)},
		{pair(1e154, 0), pair(1e154, 0), pair(1, 0)},
		{pair(math.MaxFloat64, 0), pair(2, 0), pair(inf, 0)},
		{pair(nan, 1), pair(1, 0), pair(nan, nan)},
		{pair(inf, 0), pair(1, 0), pair(inf, nan)},
	} {
		if q := impl.DivPair(c.a, c.b); !sameBoth(q, c.want) {
			t.Error("DivPair", c.a, c.b, q, c.want)
		}
	}
}

func TestP8SamePair(t *testing.T) {
	nan, other := math.NaN(), math.Float64frombits(0xfff8000000001234)
	for _, c := range []struct {
		a, b impl.Pair
		same bool
	}{
		{pair(0, 0), pair(0, 0), true}, {pair(0, 0), pair(minusZero(), 0), false}, {pair(0, 0), pair(0, minusZero()), false},
		{pair(minusZero(), minusZero()), pair(minusZero(), minusZero()), true}, {pair(1, 2), pair(1, 2), true},
		{pair(1, 2), pair(2, 1), false}, {pair(1, 2), pair(1, math.Nextafter(2, 3)), false}, {pair(1, 2), pair(math.Nextafter(1, 0), 2), false},
		{pair(nan, 1), pair(other, 1), true}, {pair(1, nan), pair(1, other), true}, {pair(nan, other), pair(other, nan), true},
		{pair(nan, 1), pair(1, nan), false}, {pair(nan, 1), pair(nan, 2), false}, {pair(1, nan), pair(2, nan), false},
		{pair(math.Inf(1), 0), pair(math.Inf(1), 0), true}, {pair(math.Inf(1), 0), pair(math.Inf(-1), 0), false}, {pair(nan, 0), pair(math.Inf(1), 0), false},
	} {
		if impl.SamePair(c.a, c.b) != c.same || impl.SamePair(c.b, c.a) != c.same {
			t.Error("SamePair", c.a, c.b, c.same)
		}
	}
}

func wantSequence(a impl.Pair, b impl.Pair, c impl.Pair) []impl.Pair {
	turn, back := pair(-0.5, third), pair(-0.5, -third)
	by3 := func(p impl.Pair) impl.Pair { return pair(oneOp(p.Re, '/', 3), oneOp(p.Im, '/', 3)) }
	return []impl.Pair{
		by3(wantAdd(wantAdd(a, b), c)),
		by3(wantAdd(wantAdd(a, wantMul(turn, b)), wantMul(back, c))),
		by3(wantAdd(wantAdd(a, wantMul(back, b)), wantMul(turn, c))),
	}
}

func wantUnsequence(zero impl.Pair, plus impl.Pair, minus impl.Pair) []impl.Pair {
	turn, back := pair(-0.5, third), pair(-0.5, -third)
	return []impl.Pair{
		wantAdd(wantAdd(zero, plus), minus),
		wantAdd(wantAdd(zero, wantMul(back, plus)), wantMul(turn, minus)),
		wantAdd(wantAdd(zero, wantMul(turn, plus)), wantMul(back, minus)),
	}
}

func TestP8SequencesByTheirWords(t *testing.T) {
	list := append(somePairs(7, 200), oddPairs()...)
	for i := range list {
		a, b, c := list[i], list[(7*i+1)%len(list)], list[(13*i+5)%len(list)]
		if s, want := impl.Sequence(a, b, c), wantSequence(a, b, c); !samePairs(s, want) {
			t.Fatal("Sequence", a, b, c, s, want)
		}
		if s, want := impl.Unsequence(a, b, c), wantUnsequence(a, b, c); !samePairs(s, want) {
			t.Fatal("Unsequence", a, b, c, s, want)
		}
	}
}

func TestP8SequencesTold(t *testing.T) {
	for _, c := range []struct {
		what      string
		got, want []impl.Pair
	}{
		{"the zero sequence alone", impl.Sequence(pair(6, 3), pair(6, 3), pair(6, 3)), []impl.Pair{pair(6, 3), pair(0, 0), pair(0, 0)}},
		{"one phase alone", impl.Sequence(pair(6, -3), pair(0, 0), pair(0, 0)), []impl.Pair{pair(2, -1), pair(2, -1), pair(2, -1)}},
		{"the second phase alone", impl.Sequence(pair(0, 0), pair(6, 0), pair(0, 0)),
			[]impl.Pair{pair(2, 0), pair(-1, 1.7320508075688774), pair(-1, -1.7320508075688774)}},
		{"the third phase alone", impl.Sequence(pair(0, 0), pair(0, 0), pair(6, 0)),
			[]impl.Pair{pair(2, 0), pair(-1, -1.7320508075688774), pair(-1, 1.7320508075688774)}},
		{"zero back", impl.Unsequence(pair(6, 3), pair(0, 0), pair(0, 0)), []impl.Pair{pair(6, 3), pair(6, 3), pair(6, 3)}},
		{"plus back", impl.Unsequence(pair(0, 0), pair(2, 0), pair(0, 0)), []impl.Pair{pair(2, 0), pair(-1, -2*third), pair(-1, 2*third)}},
		{"minus back", impl.Unsequence(pair(0, 0), pair(0, 0), pair(2, 0)), []impl.Pair{pair(2, 0), pair(-1, 2*third), pair(-1, -2*third)}},
	} {
		if !slices.Equal(c.got, c.want) {
			t.Error(c.what, c.got, c.want)
		}
	}
	if s := impl.Sequence(pair(math.NaN(), 0), pair(1, 1), pair(1, 1)); len(s) != 3 || !math.IsNaN(s[0].Re) || math.IsNaN(s[0].Im) {
		t.Error("a phase that has failed", s)
	}
	first, again := impl.Sequence(pair(1, 2), pair(3, 4), pair(5, 6)), impl.Sequence(pair(1, 2), pair(3, 4), pair(5, 6))
	kept := slices.Clone(again)
	first[0], first[1], first[2] = pair(9, 9), pair(9, 9), pair(9, 9)
	if !slices.Equal(again, kept) {
		t.Error("two answers share memory", again)
	}
}

func isNear(a impl.Pair, b impl.Pair) bool {
	return math.Abs(a.Re-b.Re) <= 1e-6 && math.Abs(a.Im-b.Im) <= 1e-6
}

func TestP8PhasesComeBackFromTheirSequences(t *testing.T) {
	back := func(a impl.Pair, b impl.Pair, c impl.Pair) {
		t.Helper()
		s := impl.Sequence(a, b, c)
		if len(s) != 3 {
			t.Fatal("Sequence", a, b, c, s)
		}
		if p := impl.Unsequence(s[0], s[1], s[2]); len(p) != 3 || !isNear(p[0], a) || !isNear(p[1], b) || !isNear(p[2], c) {
			t.Fatal("phases do not come back", a, b, c, p)
		}
	}
	tenths := someNumbers(5, 12000, -3000, 3000)
	for i := 0; i+6 <= len(tenths); i += 6 {
		of := func(k int) float64 { return float64(tenths[i+k]) / 10 }
		back(pair(of(0), of(1)), pair(of(2), of(3)), pair(of(4), of(5)))
	}
	ends := []float64{-300, 0, 0.1, 300}
	var list []impl.Pair
	for _, re := range ends {
		for _, im := range ends {
			list = append(list, pair(re, im))
		}
	}
	for _, a := range list {
		for _, b := range list {
			for _, c := range list {
				back(a, b, c)
			}
		}
	}
}

func TestP8ThePowerOfAPairWithItself(t *testing.T) {
	for seed := range int64(10) {
		for _, a := range somePairs(seed, 300) {
			s := impl.Power(a, a)
			if s.Im != 0 || !impl.Same(s.Re, impl.Norm(a)) {
				t.Fatal("the power of a pair with itself", a, s)
			}
		}
	}
	// Where a product is too great, it is not known.
	for _, a := range []impl.Pair{pair(1e200, 1e200), pair(math.Inf(1), 1), pair(1, math.NaN()), pair(math.Inf(1), 0)} {
		if s := impl.Power(a, a); impl.Known(s.Im) {
			t.Error("a power that is not known", a, s)
		}
	}
}

func TestP8Capable(t *testing.T) {
	nan, inf, m := math.NaN(), math.Inf(1), minusZero()
	up := func(x float64) float64 { return math.Nextafter(x, inf) }
	down := func(x float64) float64 { return math.Nextafter(x, -inf) }
	for _, c := range []struct {
		s  impl.Pair
		g  impl.Range
		ok bool
	}{
		{pair(3, 4), impl.Range{Least: 3, Most: 3, Round: 5}, true}, {pair(3, 4), impl.Range{Least: up(3), Most: 9, Round: 5}, false},
		{pair(3, 4), impl.Range{Least: 0, Most: down(3), Round: 5}, false}, {pair(3, 4), impl.Range{Least: 0, Most: 9, Round: down(5)}, false},
		{pair(3, -4), impl.Range{Least: 0, Most: 9, Round: 5}, true}, {pair(3, down(-4)), impl.Range{Least: 0, Most: 9, Round: 5}, false},
		{pair(down(3), 0), impl.Range{Least: 3, Most: 9, Round: 9}, false}, {pair(up(9), 0), impl.Range{Least: 3, Most: 9, Round: 99}, false},
		{pair(3, 0), impl.Range{Least: 3, Most: 9, Round: 9}, true}, {pair(9, 0), impl.Range{Least: 3, Most: 9, Round: 9}, true},
		{pair(-3, 4), impl.Range{Least: -3, Most: 0, Round: -5}, true}, {pair(0, 0), impl.Range{}, true},
		{pair(0, 0), impl.Range{Least: m, Most: m, Round: m}, true}, {pair(m, m), impl.Range{}, true}, {pair(0, 1), impl.Range{}, false},
		{pair(5, 0), impl.Range{Least: 9, Most: 3, Round: 99}, false},
		{pair(3, 4), impl.Range{Least: -inf, Most: inf, Round: inf}, true}, {pair(1e200, 0), impl.Range{Least: 0, Most: inf, Round: 1e200}, true},
		{pair(inf, 0), impl.Range{Least: 0, Most: inf, Round: inf}, true}, {pair(inf, 0), impl.Range{Least: 0, Most: inf, Round: 5}, false},
		{pair(nan, 0), impl.Range{Least: -inf, Most: inf, Round: inf}, false}, {pair(0, nan), impl.Range{Least: -inf, Most: inf, Round: inf}, false},
		{pair(0, 0), impl.Range{Least: nan, Most: 9, Round: 9}, false}, {pair(0, 0), impl.Range{Least: -9, Most: nan, Round: 9}, false},
		{pair(0, 0), impl.Range{Least: -9, Most: 9, Round: nan}, false},
	} {
		if ok := impl.Capable(c.s, c.g); ok != c.ok {
			t.Error("Capable", c.s, c.g, ok)
		}
	}
}

func TestP8Closes(t *testing.T) {
	one, nan, inf := pair(1, 0), math.NaN(), math.Inf(1)
	grid := pair(3, 4)
	for _, c := range []struct {
		grid, own impl.Pair
		apart     float64
		turn      impl.Pair
		ok        bool
	}{
		{grid, grid, 1, one, true}, {grid, grid, 5e-324, one, true},
		{grid, grid, 0, one, false}, {grid, grid, minusZero(), one, false}, {grid, grid, -1, one, false}, {grid, grid, -5e-324, one, false},
		{grid, grid, nan, one, false}, {grid, grid, inf, one, false}, {grid, grid, -inf, one, false},
		// Just as far apart as it may be, and a little further.
		{grid, pair(6, 8), 5, one, true}, {grid, pair(6, 8), math.Nextafter(5, 0), one, false}, {grid, pair(6, math.Nextafter(8, 9)), 5, one, false},
		// Near now and not a step later, and the other way round.
		{grid, grid, 1, pair(-1, 0), false}, {grid, grid, 1, pair(0, 1), false}, {grid, pair(-3, -4), 1, pair(-1, 0), false},
		{grid, pair(4, -3), 1, pair(0, 1), false}, {pair(1, 0), pair(1, 0), 0.5, pair(0.5, 0), true}, {pair(1, 0), pair(1, 0), 0.5, pair(0.25, 0), false},
		{pair(1, 0), pair(0, 1), 2, pair(0, -1), true}, {pair(1, 0), pair(0, 1), 1.5, pair(0, -1), true}, {pair(1, 0), pair(0, 1), 1.25, pair(0, -1), false},
		{pair(nan, 0), grid, 1e300, one, false}, {grid, pair(0, nan), 1e300, one, false}, {grid, grid, 1e300, pair(nan, 0), false},
		{grid, grid, 1e150, pair(inf, 0), false}, {grid, grid, 1e150, pair(inf, inf), false},
		// Both sides are too great, so the one is at most the other.
		{grid, grid, 1e300, pair(inf, 0), true}, {grid, grid, 1e300, pair(inf, inf), false}, {grid, pair(1e200, 0), 1e200, one, true}, {grid, pair(1e200, 0), 1, one, false},
		{pair(0, 0), pair(0, 0), 1, pair(7, 7), true},
	} {
		if ok := impl.Closes(c.grid, c.own, c.apart, c.turn); ok != c.ok {
			t.Error("Closes", c.grid, c.own, c.apart, c.turn, ok)
		}
	}
}
