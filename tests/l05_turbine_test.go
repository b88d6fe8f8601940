package tests

import (
	"math"
	"math/big"
	"slices"
	"testing"

	"loop.example/g00062/impl"
)

// rounded: what one operation of two known floats gives, worked out exactly and rounded once (where no result is
// too great or too small for that).
func rounded(a float64, sign rune, b float64) float64 {
	x, y := new(big.Rat).SetFloat64(a), new(big.Rat).SetFloat64(b)
	switch sign {
	case '+':
		x.Add(x, y)
	case '-':
		x.Sub(x, y)
	case '*':
		x.Mul(x, y)
	case '/':
		x.Quo(x, y)
	}
	f, _ := x.Float64()
	return f
}

func sameFloats(a []float64, b []float64) bool {
	return slices.EqualFunc(a, b, impl.Same)
}

// someNumbers: n numbers in low .. high that a fixed rule mixes.
func someNumbers(seed int64, n int, low int64, high int64) []int64 {
	out := make([]int64, n)
	state := uint64(seed)*2862933555777941757 + 3037000493
	for i := range out {
		state = state*6364136223846793005 + 1442695040888963407
		out[i] = low + int64((state>>17)%uint64(high-low+1))
	}
	return out
}

func someStages(seed int64, n int) []impl.Stage {
	stages := make([]impl.Stage, n)
	drops, etas := someNumbers(seed, n, -90000, 1000000), someNumbers(seed+1, n, 1, 1000)
	for i := range stages {
		stages[i] = impl.Stage{Drop: float64(drops[i]) / 7, Eta: float64(etas[i]) / 1001}
	}
	return stages
}

func TestP5Constants(t *testing.T) {
	if impl.MaxStages != 100 || impl.MaxFlow != 1000000000 || impl.MaxCourse != 400 {
		t.Error("a constant", impl.MaxStages, impl.MaxFlow, impl.MaxCourse)
	}
}

func TestP5Expand(t *testing.T) {
	for _, n := range []int{0, 1, 2, 3, 10, 99, 100} {
		for seed := range int64(20) {
			stages := someStages(seed, n)
			before := slices.Clone(stages)
			heat := float64(seed*1000003) / 13
			out, total := impl.Expand(heat, stages)
			var want []float64
			left, sum := heat, 0.0
			for _, s := range stages {
				w := rounded(s.Drop, '*', s.Eta)
				left, sum = rounded(left, '-', w), rounded(sum, '+', w)
				want = append(want, left)
			}
			if !sameFloats(out, want) || !impl.Same(total, sum) {
				t.Fatal("Expand", n, seed, out, want, total, sum)
			}
			if !slices.Equal(stages, before) {
				t.Fatal("stages were written to")
			}
		}
	}
}

func TestP5ExpandIsNotFused(t *testing.T) {
	near := 1 + math.Ldexp(1, -30)
	out, total := impl.Expand(1+math.Ldexp(1, -29), []impl.Stage{{Drop: near, Eta: near}, {Drop: -near, Eta: near}})
	if !sameFloats(out, []float64{0, 1 + math.Ldexp(1, -29)}) || !impl.Same(total, 0) {
		t.Error("a product was fused", out, total)
	}
}

func TestP5ExpandFromTheLeft(t *testing.T) {
	great := math.Ldexp(1, 53)
	out, total := impl.Expand(0, []impl.Stage{{Drop: great, Eta: 1}, {Drop: 1, Eta: 1}, {Drop: 1, Eta: 1}, {Drop: great, Eta: -1}})
	if !impl.Same(total, 0) || !sameFloats(out, []float64{-great, -great, -great, 0}) {
		t.Error("the sum is from the left", out, total)
	}
}

func TestP5ExpandOddFloats(t *testing.T) {
	nought, inf, nan := math.Copysign(0, -1), math.Inf(1), math.NaN()
	for _, c := range []struct {
		heat   float64
		stages []impl.Stage
		out    []float64
		total  float64
	}{
		{nought, nil, nil, 0},
		{nan, nil, nil, 0},
		{nought, []impl.Stage{{Drop: 0, Eta: 1}}, []float64{nought}, 0},
		{nought, []impl.Stage{{Drop: nought, Eta: 1}}, []float64{0}, 0},
		{0, []impl.Stage{{Drop: nought, Eta: 1}, {Drop: 1, Eta: nought}}, []float64{0, 0}, 0},
		{nought, []impl.Stage{{Drop: nought, Eta: nought}}, []float64{nought}, 0},
		{inf, []impl.Stage{{Drop: 5, Eta: 1}, {Drop: inf, Eta: 1}, {Drop: 1, Eta: 1}}, []float64{inf, nan, nan}, inf},
		{1, []impl.Stage{{Drop: inf, Eta: 0}}, []float64{nan}, nan},
		{1, []impl.Stage{{Drop: inf, Eta: -1}, {Drop: inf, Eta: 1}}, []float64{inf, nan}, nan},
		{1, []impl.Stage{{Drop: 2, Eta: nan}, {Drop: 2, Eta: 1}}, []float64{nan, nan}, nan},
		{nan, []impl.Stage{{Drop: 2, Eta: 0.5}, {Drop: 4, Eta: 2}}, []float64{nan, nan}, 9},
		{-inf, []impl.Stage{{Drop: math.MaxFloat64, Eta: 2}}, []float64{-inf}, inf},
	} {
		out, total := impl.Expand(c.heat, c.stages)
		if !sameFloats(out, c.out) || !impl.Same(total, c.total) {
			t.Error("Expand", c.heat, c.stages, out, total)
		}
	}
	for _, n := range []int{101, 102, 5000} {
		if out, total := impl.Expand(7, someStages(1, n)); len(out) != 0 || !impl.Same(total, 0) {
			t.Error("more stages than there may be", n, out, total)
		}
	}
}

func TestP5BledAndLeftIsTheFlow(t *testing.T) {
	for _, flow := range []int64{0, 1, 2, 999, 1000, 1001, 123456789, 999999999, 1000000000} {
		for _, n := range []int{0, 1, 2, 7, 99, 100} {
			for _, most := range []int64{0, 1, 20, 1000} {
				shares := someNumbers(flow+int64(n), n, 0, most)
				before := slices.Clone(shares)
				taken, left := impl.Bleed(flow, shares)
				there := flow
				for i, share := range shares {
					want := new(big.Int).Mul(big.NewInt(there), big.NewInt(share))
					if i >= len(taken) || taken[i] != want.Quo(want, big.NewInt(1000)).Int64() {
						t.Fatal("taken at", i, flow, shares, taken)
					}
					there -= taken[i]
				}
				if len(taken) != n || left != there || left < 0 || !slices.Equal(shares, before) {
					t.Fatal("Bleed", flow, shares, taken, left)
				}
			}
		}
	}
}

func TestP5BleedTold(t *testing.T) {
	for _, c := range []struct {
		flow   int64
		shares []int64
		taken  []int64
		left   int64
	}{
		{1999, []int64{1, 1000, 1000}, []int64{1, 1998, 0}, 0},
		{1000000000, []int64{1000}, []int64{1000000000}, 0},
		{1000000000, []int64{0, 999}, []int64{0, 999000000}, 1000000},
		{999, []int64{1, 999}, []int64{0, 998}, 1},
		{0, []int64{1000, 0}, []int64{0, 0}, 0},
		{12, nil, nil, 12},
		{-1, nil, nil, -1}, {-1, []int64{1}, nil, -1}, {1000000001, nil, nil, -1}, {1000000001, []int64{5}, nil, -1},
		{math.MinInt64, nil, nil, -1}, {math.MaxInt64, []int64{1000}, nil, -1},
		{10, []int64{-1}, nil, -1}, {10, []int64{1001}, nil, -1}, {10, []int64{5, 5, 1001}, nil, -1}, {0, []int64{1001, 5}, nil, -1},
		{10, []int64{math.MinInt64}, nil, -1}, {10, []int64{5, math.MaxInt64}, nil, -1},
		{10, make([]int64, 101), nil, -1},
	} {
		taken, left := impl.Bleed(c.flow, c.shares)
		if !slices.Equal(taken, c.taken) || left != c.left {
			t.Error("Bleed", c.flow, c.shares, taken, left)
		}
	}
	if taken, left := impl.Bleed(10, make([]int64, 100)); len(taken) != 100 || left != 10 {
		t.Error("100 shares", taken, left)
	}
}

// smallCourses: all courses of up to most numbers in 0 .. high.
func smallCourses(most int, high int64) [][]int64 {
	all := [][]int64{nil}
	for from := 0; len(all[from]) < most; from++ {
		for n := int64(0); n <= high; n++ {
			all = append(all, append(slices.Clone(all[from]), n))
		}
	}
	return all
}

func longCourses() [][]int64 {
	var all [][]int64
	for _, n := range []int{3, 10, 50, 399, 400} {
		for _, high := range []int64{1, 2, 10, 100000} {
			for seed := range int64(6) {
				all = append(all, someNumbers(seed, n, -high, high))
			}
		}
	}
	return all
}

func wrongCourses() [][]int64 {
	most := int64(100000)
	return [][]int64{
		make([]int64, 401), someNumbers(1, 401, -5, 5), someNumbers(1, 1000, -5, 5),
		{most + 1}, {-most - 1}, {0, most + 1}, {0, 5, -most - 1, 3}, {1, 2, 1, most + 1},
		{math.MinInt64, math.MaxInt64}, {3, math.MaxInt64, 2}, {3, math.MinInt64, 2},
	}
}

// wantTurnings: a number is one when, up to the next other number on both sides, it is an end or stands out.
func wantTurnings(course []int64) []int64 {
	var out []int64
	for i, n := range course {
		if i > 0 && course[i-1] == n {
			continue
		}
		next := i + 1
		for next < len(course) && course[next] == n {
			next++
		}
		if i > 0 && next < len(course) {
			before, behind := course[i-1], course[next]
			if !(n > before && n > behind || n < before && n < behind) {
				continue
			}
		}
		out = append(out, n)
	}
	return out
}

func TestP5Turnings(t *testing.T) {
	for _, course := range append(smallCourses(7, 3), longCourses()...) {
		before := slices.Clone(course)
		out := impl.Turnings(course)
		if !slices.Equal(out, wantTurnings(course)) || !slices.Equal(course, before) {
			t.Fatal("Turnings", course, out)
		}
		if len(course) == 0 {
			continue
		}
		if slices.Max(out) != slices.Max(course) || slices.Min(out) != slices.Min(course) {
			t.Fatal("the greatest and the least", course, out)
		}
		if again := impl.Turnings(out); !slices.Equal(again, out) {
			t.Fatal("turnings of turnings", out, again)
		}
		if out[0] = 77; course[0] != before[0] {
			t.Fatal("the answer shares the course's memory")
		}
	}
}

func TestP5TurningsTold(t *testing.T) {
	const most = 100000
	for _, c := range []struct{ in, out []int64 }{
		{nil, nil}, {[]int64{5}, []int64{5}}, {[]int64{5, 5, 5, 5}, []int64{5}},
		{[]int64{5, 6}, []int64{5, 6}}, {[]int64{6, 5}, []int64{6, 5}}, {[]int64{5, 5, 6, 6}, []int64{5, 6}},
		{[]int64{5, 6, 5}, []int64{5, 6, 5}}, {[]int64{5, 6, 6, 7}, []int64{5, 7}}, {[]int64{9, 4, 4, 4, 5}, []int64{9, 4, 5}},
		{[]int64{-most, most, -most}, []int64{-most, most, -most}}, {[]int64{most, most}, []int64{most}},
		{[]int64{0, 3, 2, 1, 1, 2, 8, 8, 7}, []int64{0, 3, 1, 8, 7}},
	} {
		if out := impl.Turnings(c.in); !slices.Equal(out, c.out) {
			t.Error("Turnings", c.in, out)
		}
	}
	if out := impl.Turnings(make([]int64, 400)); !slices.Equal(out, []int64{0}) {
		t.Error("400 alike", out)
	}
	for _, course := range wrongCourses() {
		if out := impl.Turnings(course); len(out) != 0 {
			t.Error("no course", course, out)
		}
		if out := impl.Rain(course); len(out) != 0 {
			t.Error("swings of no course", course, out)
		}
	}
}

func apart(a int64, b int64) int64 {
	return int64(math.Abs(float64(a - b)))
}

// wantRain: the stack as a list that is built anew at each count.
func wantRain(course []int64) []impl.Swing {
	var out []impl.Swing
	var pile []int64
	for _, turning := range wantTurnings(course) {
		pile = append(pile, turning)
		for n := len(pile); n >= 3 && apart(pile[n-1], pile[n-2]) >= apart(pile[n-2], pile[n-3]); n = len(pile) {
			y := apart(pile[n-2], pile[n-3])
			if n == 3 {
				out = append(out, impl.Swing{Range: y, Halves: 1})
				pile = []int64{pile[1], pile[2]}
			} else {
				out = append(out, impl.Swing{Range: y, Halves: 2})
				pile = append(slices.Clone(pile[:n-3]), pile[n-1])
			}
		}
	}
	for i := range pile {
		if i+1 < len(pile) {
			out = append(out, impl.Swing{Range: apart(pile[i], pile[i+1]), Halves: 1})
		}
	}
	return out
}

func TestP5RainCountsEverySwingOnce(t *testing.T) {
	for _, course := range append(smallCourses(7, 3), longCourses()...) {
		before := slices.Clone(course)
		out := impl.Rain(course)
		if !slices.Equal(out, wantRain(course)) || !slices.Equal(course, before) {
			t.Fatal("Rain", course, out, wantRain(course))
		}
		halves, greatest := int64(0), int64(0)
		for _, s := range out {
			halves += s.Halves
			greatest = max(greatest, s.Range)
		}
		turned := impl.Turnings(course)
		if between := max(len(turned)-1, 0); halves != int64(between) {
			t.Fatal("a swing between turnings is not counted once", course, out)
		}
		if len(turned) > 1 && greatest != slices.Max(course)-slices.Min(course) {
			t.Fatal("the greatest swing", course, out)
		}
	}
}

func TestP5RainTold(t *testing.T) {
	const most = 100000
	for _, c := range []struct {
		course []int64
		out    []impl.Swing
	}{
		{nil, nil}, {[]int64{3}, nil}, {[]int64{3, 3, 3}, nil}, {[]int64{3, 7}, []impl.Swing{{Range: 4, Halves: 1}}},
		{[]int64{-most, most}, []impl.Swing{{Range: 2 * most, Halves: 1}}},
		// Just three, the differences the same: the older one is counted, the younger one left.
		{[]int64{0, 4, 0}, []impl.Swing{{Range: 4, Halves: 1}, {Range: 4, Halves: 1}}},
		{[]int64{0, 4, 1}, []impl.Swing{{Range: 4, Halves: 1}, {Range: 3, Halves: 1}}},
		{[]int64{0, 4, -1}, []impl.Swing{{Range: 4, Halves: 1}, {Range: 5, Halves: 1}}},
		{[]int64{0, 9, 3, 6, 5}, []impl.Swing{{Range: 9, Halves: 1}, {Range: 6, Halves: 1}, {Range: 3, Halves: 1}, {Range: 1, Halves: 1}}},
		{[]int64{0, 9, 3, 6, 3}, []impl.Swing{{Range: 3, Halves: 2}, {Range: 9, Halves: 1}, {Range: 6, Halves: 1}}},
		{[]int64{-2, 1, -3, 5, -1, 3, -4, 4, -2}, []impl.Swing{
			{Range: 3, Halves: 1}, {Range: 4, Halves: 1}, {Range: 4, Halves: 2}, {Range: 8, Halves: 1},
			{Range: 9, Halves: 1}, {Range: 8, Halves: 1}, {Range: 6, Halves: 1}}},
	} {
		if out := impl.Rain(c.course); !slices.Equal(out, c.out) {
			t.Error("Rain", c.course, out)
		}
	}
	var zigzag []int64
	for i := range int64(400) {
		zigzag = append(zigzag, most*(1-i%2*2))
	}
	if out := impl.Rain(zigzag); len(out) != 399 || slices.Contains(out, impl.Swing{Range: 2 * most, Halves: 2}) {
		t.Error("400 ends", len(out))
	}
}

// wantLife: by big fractions, each sum held against the greatest part.
func wantLife(cycles []impl.Swing, curve []impl.Knot) (impl.Frac, bool) {
	sum := new(big.Rat)
	for _, s := range cycles {
		borne, ok := wantAlong(curve, s.Range)
		if !ok || borne < 1 || s.Halves != 1 && s.Halves != 2 {
			return impl.Frac{}, false
		}
		sum.Add(sum, big.NewRat(s.Halves, 2*borne))
		if _, ok := fracOf(sum); !ok {
			return impl.Frac{}, false
		}
	}
	return fracOf(sum)
}

func lifeSame(t *testing.T, cycles []impl.Swing, curve []impl.Knot) (impl.Frac, bool) {
	t.Helper()
	f, ok := impl.Life(cycles, curve)
	want, wantOk := wantLife(cycles, curve)
	if f != want || ok != wantOk {
		t.Fatal("Life", cycles, curve, f, ok, want, wantOk)
	}
	return f, ok
}

func TestP5LifeIsTheSumOverItsParts(t *testing.T) {
	curves := [][]impl.Knot{line(0, 12, 200, 12), line(0, 500, 20, 60, 60, 24, 200, 1), line(0, 20, 20, -5), line(1, 1, 60, 60)}
	met := 0
	for _, course := range append(smallCourses(5, 4), longCourses()[:40]...) {
		cycles := impl.Rain(course)
		before := slices.Clone(cycles)
		for _, curve := range curves {
			whole, ok := lifeSame(t, cycles, curve)
			for cut := range len(cycles) + 1 {
				a, aOk := impl.Life(cycles[:cut], curve)
				b, bOk := impl.Life(cycles[cut:], curve)
				if sum, sumOk := impl.AddFrac(a, b); ok && (!aOk || !bOk || !sumOk || sum != whole) {
					t.Fatal("life in two parts", cycles, curve, whole, a, b)
				}
			}
			if ok {
				met++
			}
		}
		if !slices.Equal(cycles, before) {
			t.Fatal("swings were written to")
		}
	}
	if met < 1000 {
		t.Error("too few lives that are told", met)
	}
}

func TestP5LifeEdges(t *testing.T) {
	plain := line(0, 100, 20, 100)
	one := impl.Swing{Range: 10, Halves: 1}
	if f, ok := impl.Life(slices.Repeat([]impl.Swing{one}, 400), plain); !ok || f != (impl.Frac{Num: 2, Den: 1}) {
		t.Error("400 swings", f, ok)
	}
	refused := []struct {
		cycles []impl.Swing
		curve  []impl.Knot
	}{
		{slices.Repeat([]impl.Swing{one}, 401), plain},
		{make([]impl.Swing, 401), nil},
		{[]impl.Swing{{Range: 10, Halves: 0}}, plain}, {[]impl.Swing{{Range: 10, Halves: 3}}, plain},
		{[]impl.Swing{{Range: 10, Halves: -1}}, plain}, {[]impl.Swing{one, {Range: 10, Halves: math.MinInt64}}, plain},
		{[]impl.Swing{{Range: 10, Halves: math.MaxInt64}, one}, plain},
		{[]impl.Swing{{Range: -1, Halves: 1}}, plain}, {[]impl.Swing{{Range: 21, Halves: 1}}, plain},
		{[]impl.Swing{one, {Range: math.MaxInt64, Halves: 1}}, plain},
		{[]impl.Swing{{Range: math.MinInt64, Halves: 1}, one}, plain},
		{[]impl.Swing{{Range: 5, Halves: 2}}, line(0, 5, 10, -5)}, {[]impl.Swing{{Range: 6, Halves: 2}}, line(0, 5, 10, -5)},
	}
	for _, c := range wrongCurves() {
		refused = append(refused, struct {
			cycles []impl.Swing
			curve  []impl.Knot
		}{[]impl.Swing{{Range: 0, Halves: 1}}, c})
		if f, ok := impl.Life(nil, c); !ok || f != (impl.Frac{Num: 0, Den: 1}) {
			t.Error("no swing asks for no curve", c, f, ok)
		}
	}
	for _, c := range refused {
		if f, ok := impl.Life(c.cycles, c.curve); ok || f != (impl.Frac{}) {
			t.Error("Life", c.cycles, c.curve, f, ok)
		}
	}
}

func TestP5LifeTold(t *testing.T) {
	same := line(1, 1, 1000000, 1000000)
	for _, c := range []struct {
		cycles []impl.Swing
		curve  []impl.Knot
		life   impl.Frac
		ok     bool
	}{
		{[]impl.Swing{{Range: 4, Halves: 2}}, line(0, 5, 10, -5), impl.Frac{Num: 1, Den: 1}, true},
		{[]impl.Swing{{Range: 4, Halves: 1}}, line(0, 5, 10, -5), impl.Frac{Num: 1, Den: 2}, true},
		{[]impl.Swing{{Range: 0, Halves: 2}, {Range: 20, Halves: 1}}, line(0, 5, 20, 3), impl.Frac{Num: 11, Den: 30}, true},
		{[]impl.Swing{{Range: 1000000, Halves: 1}}, same, impl.Frac{Num: 1, Den: 2000000}, true},
		{[]impl.Swing{{Range: 1000000, Halves: 2}}, same, impl.Frac{Num: 1, Den: 1000000}, true},
		// 1 by 20000 and 1 by 49999: 69999 by 999980000. With 50021 the second part is above the greatest one.
		{[]impl.Swing{{Range: 20000, Halves: 2}, {Range: 49999, Halves: 2}}, same, impl.Frac{Num: 69999, Den: 999980000}, true},
		{[]impl.Swing{{Range: 20000, Halves: 2}, {Range: 50021, Halves: 2}}, same, impl.Frac{}, false},
		{[]impl.Swing{{Range: 1000000, Halves: 1}, {Range: 999999, Halves: 1}, {Range: 5, Halves: 1}}, same, impl.Frac{}, false},
	} {
		if f, ok := lifeSame(t, c.cycles, c.curve); f != c.life || ok != c.ok {
			t.Error("Life", c.cycles, f, ok)
		}
	}
}
