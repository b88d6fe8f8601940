package tests

import (
	"math"
	"slices"
	"testing"

	"loop.example/g00062/impl"
)

// ones has n coefficients, all of them 1.
func ones(n int) []int64 {
	return slices.Repeat([]int64{1}, n)
}

// product multiplies polynomials out; of none it is 1.
func product(factors ...[]int64) []int64 {
	p := []int64{1}
	for _, f := range factors {
		q := make([]int64, len(p)+len(f)-1)
		for i, a := range p {
			for j, b := range f {
				q[i+j] += a * b
			}
		}
		p = q
	}
	return p
}

// sized tells whether there are 1 .. many coefficients in -most .. most, the last one not 0.
func sized(p []int64, many int, most int64) bool {
	if len(p) < 1 || len(p) > many || p[len(p)-1] == 0 {
		return false
	}
	return slices.Max(p) <= most && slices.Min(p) >= -most
}

// placed has n coefficients, all 1 but the one at place.
func placed(n int, place int, c int64) []int64 {
	p := ones(n)
	p[place] = c
	return p
}

// wrongPolys are not right for whom takes many coefficients in -most .. most.
func wrongPolys(many int, most int64) [][]int64 {
	list := [][]int64{nil, {}, {0}, {0, 0}, {1, 0}, {1, 1, 0}, ones(many + 1), ones(many + 40), product(ones(many), []int64{0, 1})}
	for _, n := range []int{1, 2, many} {
		list = append(list, placed(n, n-1, 0))
		for place := range n {
			for _, c := range []int64{most + 1, -most - 1, math.MaxInt64, math.MinInt64} {
				list = append(list, placed(n, place, c))
			}
		}
	}
	return list
}

// edgePolys are right, with coefficients at the bounds.
func edgePolys(many int, most int64) [][]int64 {
	list := [][]int64{{1}, {-1}, {0, 1}, {0, 0, -1}, ones(many)}
	for _, n := range []int{1, 2, many} {
		for place := range n {
			list = append(list, placed(n, place, most), placed(n, place, -most))
		}
		list = append(list, slices.Repeat([]int64{most}, n), slices.Repeat([]int64{-most}, n))
	}
	return list
}

// allPolys are all with n coefficients in -most .. most whose last one is not 0.
func allPolys(n int, most int64) [][]int64 {
	list := [][]int64{{}}
	for range n {
		var longer [][]int64
		for _, p := range list {
			for c := -most; c <= most; c++ {
				longer = append(longer, append(slices.Clone(p), c))
			}
		}
		list = longer
	}
	return slices.DeleteFunc(list, func(p []int64) bool { return p[n-1] == 0 })
}

func wantPolyAt(p []int64, s impl.Pair) impl.Pair {
	if !sized(p, 6, 1000) {
		return pair(math.NaN(), math.NaN())
	}
	sum := pair(0, 0)
	for _, c := range slices.Backward(p) {
		sum = wantAdd(wantMul(sum, s), pair(float64(c), 0))
	}
	return sum
}

func TestP9PolynomialsAtPlaces(t *testing.T) {
	list := append(edgePolys(6, 1000), wrongPolys(6, 1000)...)
	list = append(list, []int64{3, -2, 0, 0, 7}, []int64{-999, 1, -1000, 13, 0, 77})
	places := append(oddPairs(), somePairs(9, 100)...)
	for _, p := range list {
		kept := slices.Clone(p)
		for _, s := range places {
			if v, want := impl.PolyAt(p, s), wantPolyAt(p, s); !sameBoth(v, want) {
				t.Fatal("PolyAt", p, s, v, want)
			}
		}
		if !slices.Equal(p, kept) {
			t.Fatal("the polynomial is changed", kept, p)
		}
	}
}

func TestP9PolynomialsTold(t *testing.T) {
	for _, c := range []struct {
		p    []int64
		s    impl.Pair
		want impl.Pair
	}{
		{[]int64{7}, pair(3, 4), pair(7, 0)},
		{[]int64{0, 1}, pair(3, 4), pair(3, 4)},
		{[]int64{1, 0, 1}, pair(0, 1), pair(0, 0)},
		{[]int64{5, -3, 2}, pair(10, 0), pair(175, 0)},
		{[]int64{0, 0, 0, 0, 0, 1}, pair(0, 2), pair(0, 32)},
		{[]int64{7}, pair(math.NaN(), 0), pair(math.NaN(), math.NaN())},
		{[]int64{7}, pair(0, math.Inf(1)), pair(math.NaN(), math.NaN())},
		{[]int64{1, 1, 1, 1, 1, 1, 1}, pair(1, 0), pair(math.NaN(), math.NaN())},
		{nil, pair(1, 0), pair(math.NaN(), math.NaN())},
	} {
		if v := impl.PolyAt(c.p, c.s); !sameBoth(v, c.want) {
			t.Error(c.p, c.s, v, c.want)
		}
	}
}

func responseSame(t *testing.T, num []int64, den []int64) {
	t.Helper()
	for _, w := range append(oddParts(), 0.1, -3, 1e60) {
		s := pair(0, w)
		v, want := impl.Response(num, den, w), wantDiv(wantPolyAt(num, s), wantPolyAt(den, s))
		if !sameBoth(v, want) {
			t.Fatal("Response", num, den, w, v, want)
		}
	}
}

func TestP9Responses(t *testing.T) {
	good := []int64{3, -2, 0, 0, 7}
	list := append(edgePolys(6, 1000), []int64{1, 0, 1}, good)
	for i, num := range list {
		for _, den := range list[:i+1] {
			responseSame(t, num, den)
			responseSame(t, den, num)
		}
	}
	for _, wrong := range wrongPolys(6, 1000) {
		responseSame(t, wrong, good)
		responseSame(t, good, wrong)
		responseSame(t, wrong, wrong)
	}
}

func TestP9ResponsesTold(t *testing.T) {
	if v := impl.Response([]int64{2}, []int64{1, 1}, 1); !sameBoth(v, pair(1, -1)) {
		t.Error(v)
	}
	for _, w := range []float64{1, -1} {
		if v := impl.Response([]int64{2}, []int64{1, 0, 1}, w); !bothNaN(v) {
			t.Error("a pole just there", w, v)
		}
	}
	if v := impl.Response([]int64{1, 0}, []int64{1, 1}, 1); !bothNaN(v) {
		t.Error("num is not right", v)
	}
	if v := impl.Response([]int64{1}, nil, 1); !bothNaN(v) {
		t.Error("den is not right", v)
	}
}

// toldFactor is a polynomial whose poles are known.
type toldFactor struct {
	p    []int64
	left bool
}

func toldFactors() []toldFactor {
	return []toldFactor{
		{[]int64{1, 1}, true}, {[]int64{3, 1}, true}, {[]int64{1, 2}, true}, {[]int64{-2, -1}, true},
		{[]int64{0, 1}, false}, {[]int64{-1, 1}, false}, {[]int64{3, -2}, false},
		{[]int64{1, 1, 1}, true}, {[]int64{5, 2, 1}, true}, {[]int64{-7, -1, -1}, true},
		{[]int64{1, 0, 1}, false}, {[]int64{4, 0, 1}, false},
		{[]int64{1, -1, 1}, false}, {[]int64{9, -1, 1}, false}, {[]int64{-2, 0, 1}, false},
	}
}

// productsOf goes through all products of up to many told factors, none twice in another order.
func productsOf(many int, visit func(p []int64, left bool)) {
	factors := toldFactors()
	var more func(p []int64, left bool, from int, many int)
	more = func(p []int64, left bool, from int, many int) {
		visit(p, left)
		if many == 0 {
			return
		}
		for i := from; i < len(factors); i++ {
			more(product(p, factors[i].p), left && factors[i].left, i, many-1)
		}
	}
	more([]int64{1}, true, 0, many)
}

func TestP9ProductsOfToldPoles(t *testing.T) {
	stable, not := 0, 0
	productsOf(5, func(p []int64, left bool) {
		right := sized(p, 6, 1000)
		for _, k := range []int64{1, -1, 3} {
			q := product(p, []int64{k})
			if k == 3 && !sized(q, 6, 1000) {
				continue
			}
			if is := impl.Stable(q); is != (right && left) {
				t.Fatal(q, is, right, left)
			}
		}
		if right && left {
			stable++
		} else if right {
			not++
		}
	})
	if stable < 50 || not < 200 {
		t.Error("too few products", stable, not)
	}
}

func TestP9StableTold(t *testing.T) {
	for _, c := range []struct {
		p  []int64
		is bool
	}{
		{[]int64{1000}, true}, {[]int64{-1000}, true}, {[]int64{0}, false}, {[]int64{1001}, false},
		{[]int64{0, 1}, false}, {[]int64{0, 0, 1}, false}, {[]int64{0, 1, 1}, false}, {[]int64{0, -1, -1}, false},
		{[]int64{1, 0, 1}, false}, {[]int64{1, 0, 2, 0, 1}, false}, {[]int64{-1, 0, -2, 0, -1}, false},
		{[]int64{1, 1, 2, 2, 1, 1}, false}, {[]int64{0, 1, 0, 2, 0, 1}, false},
		{[]int64{1, 1, 1, 1}, false}, {[]int64{1, 2, 1, 1}, true}, {[]int64{1, 0, 1, 1}, false},
		{[]int64{1, 1, 0, 1}, false}, {[]int64{-1, 1}, false}, {[]int64{1, -1}, false},
		{[]int64{1, -2, 1}, false}, {[]int64{1, 2, -1}, false}, {[]int64{-1, -2, -1}, true},
		{[]int64{1, 5, 10, 10, 5, 1}, true}, {[]int64{-1, -5, -10, -10, -5, -1}, true},
		{[]int64{1, 5, 10, 0, 5, 1}, false}, {[]int64{1, 1, 1, 1, 1}, false}, {[]int64{1, 1, 1, 1, 1, 1}, false},
		{[]int64{1000, 1000, 1000, 1}, true}, {[]int64{1000, 1000, 1, 1}, false}, {[]int64{999, 1000, 1, 1}, true},
	} {
		if is := impl.Stable(c.p); is != c.is {
			t.Error(c.p, is)
		}
	}
	for _, p := range wrongPolys(6, 1000) {
		if impl.Stable(p) {
			t.Error("not right", p)
		}
	}
}

// determinant goes along the first row.
func determinant(m [][]int64) int64 {
	if len(m) == 0 {
		return 1
	}
	sum, sign := int64(0), int64(1)
	for j, c := range m[0] {
		var rest [][]int64
		for _, row := range m[1:] {
			rest = append(rest, slices.Delete(slices.Clone(row), j, j+1))
		}
		if c != 0 {
			sum += sign * c * determinant(rest)
		}
		sign = -sign
	}
	return sum
}

// wantStable asks Hurwitz's determinants; p has any size, its last coefficients may be 0.
func wantStable(p []int64) bool {
	for len(p) > 0 && p[len(p)-1] == 0 {
		p = p[:len(p)-1]
	}
	if len(p) == 0 {
		return false
	}
	n := len(p) - 1
	sign := int64(1)
	if p[n] < 0 {
		sign = -1
	}
	for size := 1; size <= n; size++ {
		m := make([][]int64, size)
		for i := range m {
			m[i] = make([]int64, size)
			for j := range m[i] {
				if at := n - 1 - 2*j + i; at >= 0 && at <= n {
					m[i][j] = sign * p[at]
				}
			}
		}
		if determinant(m) <= 0 {
			return false
		}
	}
	return true
}

func TestP9StableByDeterminants(t *testing.T) {
	for n := 1; n <= 6; n++ {
		most := int64(3)
		if n > 4 {
			most = 2
		}
		for _, p := range allPolys(n, most) {
			stableSame(t, p)
		}
	}
	for _, p := range edgePolys(6, 1000) {
		stableSame(t, p)
	}
}

func stableSame(t *testing.T, p []int64) bool {
	t.Helper()
	is, want := impl.Stable(p), wantStable(p)
	if is != want {
		t.Fatal(p, is, want)
	}
	return is
}

// TestP9StableOfGreatCoefficients has numbers whose rows in a scheme are above an int64.
func TestP9StableOfGreatCoefficients(t *testing.T) {
	stable, not := 0, 0
	for seed := range int64(1000) {
		p := []int64{250, 450, 850, 700, 400, 150}
		for i, by := range someNumbers(seed, 6, -140, 140) {
			p[i] += by
		}
		if stableSame(t, p) {
			stable++
		} else {
			not++
		}
	}
	if stable < 100 || not < 100 {
		t.Error("too few of a kind", stable, not)
	}
}

// TestP9StableNearTheEdge has a pair at i and -i, and then one coefficient that is one more or less.
func TestP9StableNearTheEdge(t *testing.T) {
	stable := 0
	for seed := range int64(200) {
		p := product([]int64{1, 0, 1}, someNumbers(seed, 4, 1, 499))
		if impl.Stable(p) {
			t.Fatal("poles on the edge", p)
		}
		for i := range p {
			for _, by := range []int64{-1, 1} {
				q := slices.Clone(p)
				q[i] += by
				if q[len(q)-1] != 0 && stableSame(t, q) {
					stable++
				}
			}
		}
	}
	if stable < 100 {
		t.Error("too few are stable", stable)
	}
}

func wantGain(num []int64, den []int64) int64 {
	if !sized(num, 4, 50) || !sized(den, 4, 50) || len(num) > len(den) {
		return -1
	}
	for k := int64(0); k <= 100; k++ {
		sum := slices.Clone(den)
		for i, c := range num {
			sum[i] += k * c
		}
		if !wantStable(sum) {
			return k - 1
		}
	}
	return 100
}

func TestP9GainsTold(t *testing.T) {
	for _, c := range []struct {
		num, den []int64
		want     int64
	}{
		{[]int64{1}, []int64{6, 11, 6, 1}, 59},
		{[]int64{1}, []int64{1, 10, 10, 1}, 98},
		{[]int64{1}, []int64{2, 17, 6, 1}, 99},
		{[]int64{1}, []int64{1, 17, 6, 1}, 100},
		{[]int64{1}, []int64{1, 1}, 100},
		{[]int64{1}, []int64{0, 1}, -1},
		{[]int64{1}, []int64{-1, 1}, -1},
		{[]int64{-1}, []int64{1, 1}, 0},
		{[]int64{-1}, []int64{50, 1}, 49},
		{[]int64{0, -1}, []int64{1, 1}, 1},
		{[]int64{0, -1}, []int64{1, 5}, 5},
		{[]int64{0, 0, -1}, []int64{1, 1, 1}, 1},
		{[]int64{0, 0, -7}, []int64{1, 1, 50}, 7},
		{[]int64{0, -1, -1}, []int64{1, 1, 1}, 1},
		{[]int64{0, 0, 0, -1}, []int64{1, 3, 3, 1}, 1},
		{[]int64{-1}, []int64{1}, 0},
		{[]int64{-1}, []int64{2}, 1},
		{[]int64{-7}, []int64{50}, 100},
		{[]int64{-1, -1}, []int64{1, 1}, 0},
		{[]int64{-1, -1}, []int64{3, 3}, 2},
		{[]int64{20, 1, 1}, []int64{1, 10, 1, 1}, 1},
		{[]int64{50, 50, 50, 50}, []int64{50, 50, 50, 50}, -1},
		{[]int64{50, 50, 50, 49}, []int64{50, 50, 50, 49}, 100},
		{[]int64{-50, -50, -50, -49}, []int64{50, 50, 50, 49}, 0},
		{[]int64{-50, -50, -50, -49}, []int64{-50, -50, -50, -49}, 100},
		{[]int64{5}, []int64{5}, 100},
		{[]int64{1, 1}, []int64{1}, -1},
		{[]int64{1, 1, 1}, []int64{1, 1}, -1},
		{[]int64{1, 1, 1, 1, 1}, []int64{1, 4, 6, 4, 1}, -1},
		{[]int64{1}, []int64{1, 4, 6, 4, 1}, -1},
		{[]int64{1, 1}, []int64{51, 1}, -1},
		{[]int64{51, 1}, []int64{1, 1}, -1},
		{[]int64{50, 1}, []int64{50, 1}, 100},
		{[]int64{1, 0}, []int64{1, 1}, -1},
		{[]int64{1}, []int64{1, 0}, -1},
		{nil, []int64{1, 1}, -1},
		{[]int64{1}, nil, -1},
	} {
		if k := impl.GainMost(c.num, c.den); k != c.want {
			t.Error(c.num, c.den, k, c.want)
		}
	}
}

// TestP9StableAgain: behind a gain at which the loop is not stable it may be stable again, which doesn't count.
func TestP9StableAgain(t *testing.T) {
	num, den := []int64{20, 1, 1}, []int64{1, 10, 1, 1}
	for k := range int64(49) {
		sum := []int64{den[0] + k*num[0], den[1] + k*num[1], den[2] + k*num[2], den[3]}
		if is, want := impl.Stable(sum), k < 2 || k > 7; is != want {
			t.Error(k, sum, is)
		}
	}
	if k := impl.GainMost(num, den); k != 1 {
		t.Error(k)
	}
}

func TestP9GainsByDeterminants(t *testing.T) {
	var list [][]int64
	for n := 1; n <= 3; n++ {
		list = append(list, allPolys(n, 2)...)
	}
	for i, num := range list {
		for j, den := range list {
			// All pairs would be many; those left out are spread evenly.
			if (i+3*j)%5 != 0 {
				continue
			}
			if k, want := impl.GainMost(num, den), wantGain(num, den); k != want {
				t.Fatal(num, den, k, want)
			}
		}
	}
	for seed := range int64(300) {
		num, den := someNumbers(seed, int(1+seed%4), -50, 50), someNumbers(seed+1000, 4, 1, 50)
		if k, want := impl.GainMost(num, den), wantGain(num, den); k != want {
			t.Fatal(num, den, k, want)
		}
	}
}

func TestP9GainsRefused(t *testing.T) {
	good := []int64{1, 3, 3, 1}
	for _, wrong := range wrongPolys(4, 50) {
		kept := slices.Clone(wrong)
		if k := impl.GainMost(wrong, good); k != -1 {
			t.Error("num", wrong, k)
		}
		if k := impl.GainMost([]int64{1}, wrong); k != -1 {
			t.Error("den", wrong, k)
		}
		if !slices.Equal(wrong, kept) {
			t.Error("an argument is changed", kept, wrong)
		}
	}
	for _, p := range edgePolys(4, 50) {
		if k, want := impl.GainMost(p, good), wantGain(p, good); k != want {
			t.Error(p, k, want)
		}
		if k, want := impl.GainMost([]int64{1}, p), wantGain([]int64{1}, p); k != want {
			t.Error(p, k, want)
		}
	}
}

// toldRoot is the number num by den, den above 0.
type toldRoot struct {
	num, den int64
}

func toldRoots() []toldRoot {
	return []toldRoot{{-3, 1}, {-1, 1}, {0, 1}, {1, 1}, {2, 1}, {1, 2}, {-1, 2}, {5, 2}, {4, 3}, {-7, 3}}
}

// wantCount counts different roots above low and at most high.
func wantCount(roots []toldRoot, low int64, high int64) int64 {
	var seen []toldRoot
	for _, r := range roots {
		if r.num > low*r.den && r.num <= high*r.den && !slices.Contains(seen, r) {
			seen = append(seen, r)
		}
	}
	return int64(len(seen))
}

func withRoots(k int64, roots []toldRoot) []int64 {
	p := []int64{k}
	for _, r := range roots {
		p = product(p, []int64{-r.num, r.den})
	}
	return p
}

func rootsSame(t *testing.T, p []int64, roots []toldRoot) {
	t.Helper()
	for low := int64(-5); low < 5; low++ {
		for high := low + 1; high <= 5; high++ {
			if n, want := impl.RealRoots(p, low, high), wantCount(roots, low, high); n != want {
				t.Fatal(p, roots, low, high, n, want)
			}
		}
	}
	if n, want := impl.RealRoots(p, -100, 100), wantCount(roots, -100, 100); n != want {
		t.Fatal(p, roots, n, want)
	}
}

func TestP9RootsOfToldFactors(t *testing.T) {
	list := toldRoots()
	counted := 0
	count := func(roots ...toldRoot) {
		for _, k := range []int64{1, -1, 2} {
			if p := withRoots(k, roots); sized(p, 4, 100) {
				rootsSame(t, p, roots)
				counted++
			}
		}
	}
	for i, a := range list {
		count(a)
		for j, b := range list[i:] {
			count(a, b)
			for _, c := range list[i+j:] {
				count(a, b, c)
			}
		}
	}
	if counted < 300 {
		t.Error("too few products", counted)
	}
}

// TestP9RootsBesideNone: a factor without a real root adds none.
func TestP9RootsBesideNone(t *testing.T) {
	for _, none := range [][]int64{{1, 0, 1}, {1, 1, 1}, {-5, 2, -1}, {3, -3, 1}} {
		rootsSame(t, none, nil)
		for _, r := range toldRoots() {
			rootsSame(t, product(none, []int64{-r.num, r.den}), []toldRoot{r})
		}
	}
}

func TestP9RootsTold(t *testing.T) {
	for _, c := range []struct {
		p         []int64
		low, high int64
		want      int64
	}{
		{[]int64{7}, -100, 100, 0}, {[]int64{-7}, 0, 1, 0},
		{[]int64{0, 1}, -1, 0, 1}, {[]int64{0, 1}, 0, 1, 0}, {[]int64{0, 1}, -1, 1, 1},
		{[]int64{-1, 2}, 0, 1, 1}, {[]int64{-1, 2}, 1, 2, 0}, {[]int64{-1, 2}, -1, 0, 0},
		{[]int64{-2, 0, 1}, 1, 2, 1}, {[]int64{-2, 0, 1}, -2, -1, 1}, {[]int64{-2, 0, 1}, -1, 1, 0}, {[]int64{-2, 0, 1}, -2, 2, 2},
		{[]int64{-2, 0, 0, 1}, 1, 2, 1}, {[]int64{-2, 0, 0, 1}, -100, 1, 0}, {[]int64{-2, 0, 0, 1}, -100, 100, 1},
		{[]int64{1, -3, 0, 1}, -2, -1, 1}, {[]int64{1, -3, 0, 1}, 0, 1, 1}, {[]int64{1, -3, 0, 1}, 1, 2, 1},
		{[]int64{1, -3, 0, 1}, -1, 0, 0}, {[]int64{1, -3, 0, 1}, -100, 100, 3},
		{[]int64{1, -2, 1}, 0, 1, 1}, {[]int64{1, -2, 1}, 1, 2, 0}, {[]int64{1, -2, 1}, 0, 2, 1},
		{[]int64{-1, 3, -3, 1}, 0, 1, 1}, {[]int64{-1, 3, -3, 1}, 1, 2, 0}, {[]int64{1, -3, 3, -1}, 0, 2, 1},
		{[]int64{0, 0, 0, 5}, -1, 0, 1}, {[]int64{0, 0, 0, 5}, 0, 1, 0}, {[]int64{0, 0, 0, 5}, -100, 100, 1},
		{[]int64{0, 0, -1, 1}, -1, 0, 1}, {[]int64{0, 0, -1, 1}, 0, 1, 1}, {[]int64{0, 0, -1, 1}, -1, 1, 2},
		{[]int64{100, 1}, -100, -99, 0}, {[]int64{99, 1}, -100, -99, 1}, {[]int64{-100, 1}, 99, 100, 1},
		{[]int64{-100, 1}, -100, 99, 0}, {[]int64{-1, -100, 1}, -100, 100, 1}, {[]int64{1, -100, 1}, -100, 100, 2},
		{[]int64{0, -100, 1}, -1, 0, 1}, {[]int64{0, -100, 1}, 0, 100, 1}, {[]int64{0, -100, 1}, 0, 99, 0},
		{[]int64{100, 100, 100, 100}, -2, 0, 1}, {[]int64{-100, 100, -100, 100}, 0, 1, 1},
		{[]int64{101, 1}, -100, 100, -1}, {[]int64{-101, 1}, -100, 100, -1}, {[]int64{1, 1, 1, 1, 1}, -5, 5, -1},
		{[]int64{1, 1}, -101, 5, -1}, {[]int64{1, 1}, -5, 101, -1}, {[]int64{1, 1}, 2, 2, -1}, {[]int64{1, 1}, 3, 2, -1},
		{[]int64{1, 1}, 100, 100, -1}, {[]int64{1, 1}, -100, -100, -1}, {[]int64{1, 1}, 100, -100, -1},
		{[]int64{1, 1}, math.MinInt64, math.MaxInt64, -1}, {[]int64{1, 1}, math.MaxInt64, math.MinInt64, -1},
		{[]int64{7}, 1, 1, -1}, {[]int64{7}, 99, 100, 0}, {[]int64{7}, -100, -99, 0},
	} {
		if n := impl.RealRoots(c.p, c.low, c.high); n != c.want {
			t.Error(c.p, c.low, c.high, n, c.want)
		}
	}
}

func TestP9RootsRefused(t *testing.T) {
	for _, p := range wrongPolys(4, 100) {
		kept := slices.Clone(p)
		if n := impl.RealRoots(p, -5, 5); n != -1 {
			t.Error(p, n)
		}
		if !slices.Equal(p, kept) {
			t.Error("the polynomial is changed", kept, p)
		}
	}
	for _, p := range edgePolys(4, 100) {
		if n := impl.RealRoots(p, -100, 100); n < 0 || n > int64(len(p)-1) {
			t.Error(p, n)
		}
	}
}

// TestP9RootsPieceByPiece: what lies in two pieces lies in the whole, and each whole number that is a root is counted.
func TestP9RootsPieceByPiece(t *testing.T) {
	for seed := range int64(100) {
		p := append(someNumbers(seed, 3, -100, 100), 1+seed)
		sum := int64(0)
		for low := int64(-100); low < 100; low++ {
			n := impl.RealRoots(p, low, low+1)
			at := impl.PolyAt(p, pair(float64(low+1), 0)).Re
			if n < 0 || at == 0 && n == 0 {
				t.Fatal(p, low, n, at)
			}
			sum += n
		}
		if n := impl.RealRoots(p, -100, 100); n != sum || n > 3 {
			t.Fatal(p, n, sum)
		}
	}
}

func wantFilter(num []float64, den []float64, list []float64) []float64 {
	var out []float64
	for n := range list {
		told, kept := 0.0, 0.0
		for i := 0; i < len(num) && i <= n; i++ {
			told = oneOp(told, '+', oneOp(num[i], '*', list[n-i]))
		}
		for i := 1; i < len(den) && i <= n; i++ {
			kept = oneOp(kept, '+', oneOp(den[i], '*', out[n-i]))
		}
		out = append(out, oneOp(oneOp(told, '-', kept), '/', den[0]))
	}
	return out
}

func filterSame(t *testing.T, num []float64, den []float64, list []float64) {
	t.Helper()
	kept := [][]float64{slices.Clone(num), slices.Clone(den), slices.Clone(list)}
	out, want := impl.Filter(num, den, list), wantFilter(num, den, list)
	if !sameFloats(out, want) {
		t.Fatal(num, den, list, out, want)
	}
	for i := range out {
		out[i] = 77
	}
	if !sameFloats(num, kept[0]) || !sameFloats(den, kept[1]) || !sameFloats(list, kept[2]) {
		t.Fatal("an argument is changed", kept, num, den, list)
	}
}

// someParts are numbers that are not whole, so that each rounding shows.
func someParts(seed int64, n int) []float64 {
	list := make([]float64, n)
	for i, k := range someNumbers(seed, n, -1000, 1000) {
		list[i] = float64(k) / 997
	}
	return list
}

func TestP9FiltersRoundEachStep(t *testing.T) {
	for seed := range int64(8) {
		for _, taps := range []int{1, 2, 3, 8} {
			num, den := someParts(seed, taps), someParts(seed+50, int(1+seed))
			den[0] = 1 + float64(seed)/7
			for _, n := range []int{0, 1, 2, 7, 8, 9, 40} {
				filterSame(t, num, den, someParts(seed+100, n))
			}
		}
	}
	odd := oddParts()
	for _, a := range odd {
		for _, b := range odd {
			filterSame(t, []float64{a, b}, []float64{b, a}, odd)
			filterSame(t, []float64{1, a}, []float64{a, 0.5}, []float64{b, 1, -2, b})
			filterSame(t, []float64{a}, []float64{b}, odd)
		}
	}
	filterSame(t, []float64{0.5, 0.25}, []float64{1, -0.99}, someParts(3, 1000))
}

func TestP9FiltersTold(t *testing.T) {
	below := minusZero()
	for _, c := range []struct {
		num, den, list, want []float64
	}{
		{[]float64{1}, []float64{1}, nil, nil},
		{[]float64{1}, []float64{1}, []float64{below}, []float64{0}},
		{[]float64{1}, []float64{-1}, []float64{below}, []float64{below}},
		{[]float64{1}, []float64{1, -1}, []float64{1, 2, 3}, []float64{1, 3, 6}},
		{[]float64{1, -1}, []float64{1}, []float64{1, 3, 6}, []float64{1, 2, 3}},
		{[]float64{0, 0, 1}, []float64{1}, []float64{5, 6}, []float64{0, 0}},
		{[]float64{0, 0, 1}, []float64{1}, []float64{5, 6, 7}, []float64{0, 0, 5}},
		{[]float64{1}, []float64{1, 0, 0, -1}, []float64{5, 6}, []float64{5, 6}},
		{[]float64{1}, []float64{0}, []float64{1, -1, 0}, []float64{math.Inf(1), math.Inf(-1), math.NaN()}},
		{[]float64{1}, []float64{below}, []float64{1, -1, 0}, []float64{math.Inf(-1), math.Inf(1), math.NaN()}},
		{[]float64{1}, []float64{math.NaN()}, []float64{1, 2}, []float64{math.NaN(), math.NaN()}},
		{[]float64{1}, []float64{math.Inf(1)}, []float64{1, -2}, []float64{0, below}},
		{[]float64{1, 1, 1}, []float64{1}, []float64{-1e16, 1e16, 1}, []float64{-1e16, 0, 0}},
		{[]float64{1, 1, 1}, []float64{1}, []float64{1, -1e16, 1e16}, []float64{1, -1e16, 1}},
		{[]float64{0, 0, 0, 1}, []float64{1, -1, 1, 1}, []float64{1, 0, 0, 0, 0}, []float64{0, 0, 0, 1, 1}},
		{[]float64{math.NaN()}, []float64{1}, []float64{1}, []float64{math.NaN()}},
		{[]float64{0}, []float64{1}, []float64{math.Inf(1), 1}, []float64{math.NaN(), 0}},
	} {
		if out := impl.Filter(c.num, c.den, c.list); !sameFloats(out, c.want) {
			t.Error(c.num, c.den, c.list, out, c.want)
		}
	}
}

func TestP9FiltersRefused(t *testing.T) {
	list := someParts(1, 1000)
	for _, nums := range []int{0, 1, 8, 9, 100} {
		for _, dens := range []int{0, 1, 8, 9, 100} {
			for _, n := range []int{0, 1, 1000, 1001, 2000} {
				num, den := slices.Repeat([]float64{0.25}, nums), slices.Repeat([]float64{0.125}, dens)
				out := impl.Filter(num, den, slices.Repeat(list, 2)[:n])
				want := n
				if nums < 1 || nums > 8 || dens < 1 || dens > 8 || n > 1000 {
					want = 0
				}
				if len(out) != want {
					t.Error(nums, dens, n, len(out), want)
				}
			}
		}
	}
}

func wholes(seed int64, n int, most int64) []float64 {
	list := make([]float64, n)
	for i, k := range someNumbers(seed, n, -most, most) {
		list[i] = float64(k)
	}
	return list
}

func TestP9FiltersOfSums(t *testing.T) {
	for seed := range int64(60) {
		num, den := wholes(seed, int(1+seed%8), 9), wholes(seed+100, int(1+seed%3), 2)
		den[0] = float64(1 - 2*(seed%2))
		a, b := wholes(seed+200, 20, 99), wholes(seed+300, 20, 99)
		sum := make([]float64, len(a))
		for i := range sum {
			sum[i] = a[i] + b[i]
		}
		of, x, y := impl.Filter(num, den, sum), impl.Filter(num, den, a), impl.Filter(num, den, b)
		for i := range sum {
			if math.Abs(x[i])+math.Abs(y[i]) >= 1e15 {
				t.Fatal("these are too great to be exact", x[i], y[i])
			}
			if of[i] != x[i]+y[i] {
				t.Fatal(num, den, i, of[i], x[i], y[i])
			}
		}
	}
}
