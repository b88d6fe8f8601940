package tests

import (
	"math"
	"slices"
	"testing"

	"loop.example/g00062/impl"
)

const mostFloat = math.MaxFloat64

func sensor(low float64, high float64) impl.Sensor {
	return impl.Sensor{Low: low, High: high}
}

// steepSensors tell a number of its own at each count, with room for others between two of them.
func steepSensors() []impl.Sensor {
	return []impl.Sensor{
		sensor(0, 4015), sensor(0, 1), sensor(-40, 120.5), sensor(4, 20), sensor(-1, minusZero()), sensor(minusZero(), 0.1),
		sensor(1e-300, 3e-300), sensor(-mostFloat/2, mostFloat/2), sensor(0, mostFloat), sensor(-mostFloat, 0),
		sensor(-7e15, 7e15), sensor(1e12, 1e12+4015), sensor(0, 3*4015*math.SmallestNonzeroFloat64),
	}
}

// flatSensors tell the same at several counts, or nothing that is known.
func flatSensors() []impl.Sensor {
	edge := math.Ldexp(3, 970)
	return []impl.Sensor{
		sensor(1, math.Nextafter(1, 2)), sensor(1e16, 1e16+20), sensor(0, math.SmallestNonzeroFloat64), sensor(-1e-320, 1e-320),
		sensor(-mostFloat, mostFloat), sensor(-1e308, 1e308), sensor(edge, mostFloat), sensor(-mostFloat, math.Ldexp(1, 970)),
		sensor(math.Nextafter(mostFloat, 0), mostFloat), sensor(-mostFloat, -math.Nextafter(mostFloat, 0)),
	}
}

func wrongSensors() []impl.Sensor {
	list := []impl.Sensor{
		{}, sensor(1, 1), sensor(2, 1), sensor(0, minusZero()), sensor(minusZero(), 0), sensor(mostFloat, -mostFloat),
		sensor(math.Nextafter(1, 2), 1),
	}
	for _, x := range unknowns() {
		list = append(list, sensor(x, 5), sensor(5, x), sensor(x, x))
	}
	return append(list, sensor(math.Inf(-1), math.Inf(1)))
}

func wantReading(s impl.Sensor, count int64) float64 {
	part := oneOp(float64(count-40), '/', 4015)
	return oneOp(s.Low, '+', oneOp(oneOp(s.High, '-', s.Low), '*', part))
}

func wantReadings(s impl.Sensor) []float64 {
	var list []float64
	for count := int64(40); count <= 4055; count++ {
		list = append(list, wantReading(s, count))
	}
	return list
}

// wantCountOf goes through all counts from the least one on.
func wantCountOf(readings []float64, x float64) int64 {
	for i, r := range readings {
		if r >= x {
			return int64(i + 40)
		}
	}
	return -1
}

func TestP12Constants(t *testing.T) {
	if impl.MaxChannels != 16 || impl.MaxList != 1000 {
		t.Error("a constant", impl.MaxChannels, impl.MaxList)
	}
}

func brokenCounts() []int64 {
	return []int64{math.MinInt64, -4055, -41, -40, -1, 0, 1, 38, 39, 4056, 4057, 4094, 4095, 4096, 4097, math.MaxInt64}
}

func TestP12ReadingsAndBack(t *testing.T) {
	for _, s := range append(steepSensors(), flatSensors()...) {
		readings := wantReadings(s)
		for i, want := range readings {
			count := int64(i + 40)
			x := impl.ReadCount(s, count)
			if !impl.Same(x, want) {
				t.Fatal("ReadCount", s, count, x, want)
			}
			if c := impl.CountOf(s, x); c != wantCountOf(readings, want) {
				t.Fatal("CountOf", s, count, x, c)
			}
		}
		for _, count := range brokenCounts() {
			if x := impl.ReadCount(s, count); !math.IsNaN(x) {
				t.Error("a broken count", s, count, x)
			}
		}
	}
}

func TestP12CountsComeBack(t *testing.T) {
	for _, s := range steepSensors() {
		for count := int64(40); count <= 4055; count++ {
			x := impl.ReadCount(s, count)
			if c := impl.CountOf(s, x); c != count {
				t.Fatal("it does not come back", s, count, x, c)
			}
			if c := impl.CountOf(s, math.Nextafter(x, math.Inf(-1))); c != count {
				t.Fatal("just below", s, count, x, c)
			}
			next := count + 1
			if count == 4055 {
				next = -1
			}
			if c := impl.CountOf(s, math.Nextafter(x, math.Inf(1))); c != next {
				t.Fatal("just above", s, count, x, c)
			}
		}
	}
}

func TestP12Counts(t *testing.T) {
	numbers := append(someParts(7, 40), 0, minusZero(), 1, -1, 1e16, 1e300, -1e300, mostFloat, -mostFloat, 5e-324, -5e-324)
	numbers = append(numbers, unknowns()...)
	for _, s := range append(steepSensors(), flatSensors()...) {
		readings := wantReadings(s)
		near := []float64{s.Low, s.High, math.Nextafter(s.Low, -mostFloat), math.Nextafter(s.High, mostFloat), s.Low / 2, s.High / 2}
		for _, x := range append(near, numbers...) {
			if c, want := impl.CountOf(s, x), wantCountOf(readings, x); c != want {
				t.Error(s, x, c, want)
			}
		}
	}
	for _, s := range wrongSensors() {
		for _, count := range append(brokenCounts(), 40, 41, 2000, 4055) {
			if x := impl.ReadCount(s, count); !math.IsNaN(x) {
				t.Error("not right", s, count, x)
			}
		}
		for _, x := range append([]float64{s.Low, s.High}, numbers...) {
			if c := impl.CountOf(s, x); c != -1 {
				t.Error("not right", s, x, c)
			}
		}
	}
}

func TestP12CountsTold(t *testing.T) {
	s, wide := sensor(-100, 4015-100), sensor(-mostFloat, mostFloat)
	for _, c := range []struct {
		name string
		s    impl.Sensor
		x    float64
		told int64
	}{
		{"Low", s, -100, 40}, {"High", s, 3915, 4055}, {"just above High", s, math.Nextafter(3915, 4000), -1}, {"below Low", s, -101, 40},
		{"far below", s, math.Inf(-1), 40}, {"far above", s, math.Inf(1), -1}, {"a NaN", s, math.NaN(), -1}, {"0", s, 0, 140}, {"-0", s, minusZero(), 140},
		{"between", s, 0.25, 141}, {"the greatest span reads nothing at 40", wide, math.Inf(-1), 41}, {"and all behind", wide, 0, 41},
		{"and all there", wide, math.Inf(1), 41}, {"but no NaN", wide, math.NaN(), -1},
	} {
		if got := impl.CountOf(c.s, c.x); got != c.told {
			t.Error(c.name, got, c.told)
		}
	}
	if x := impl.ReadCount(wide, 40); !math.IsNaN(x) {
		t.Error("an infinity times 0", x)
	}
	if x := impl.ReadCount(wide, 41); !math.IsInf(x, 1) {
		t.Error("an infinity", x)
	}
	if x := impl.ReadCount(sensor(minusZero(), 1), 40); !impl.Same(x, 0) {
		t.Error("-0 and 0 is 0", x)
	}
	if x := impl.ReadCount(s, 39); !math.IsNaN(x) {
		t.Error(x)
	}
	if x := impl.ReadCount(s, 4056); !math.IsNaN(x) {
		t.Error(x)
	}
}

func TestP12Calibrate(t *testing.T) {
	odd := []float64{0, minusZero(), 1, -1, 0.1, 3, 1e16, 5e-324, -5e-324, 1e-310, mostFloat, -mostFloat, 1e308, 7.25}
	odd = append(odd, unknowns()...)
	some := someParts(3, 400)
	check := func(a float64, b float64, low float64, high float64) {
		t.Helper()
		gain, offset, ok := impl.Calibrate(a, b, low, high)
		if !impl.Known(a) || !impl.Known(b) || !impl.Known(low) || !impl.Known(high) || a == b {
			if ok || !impl.Same(gain, 0) || !impl.Same(offset, 0) {
				t.Fatal("refused", a, b, low, high, gain, offset, ok)
			}
			return
		}
		wantGain := oneOp(oneOp(high, '-', low), '/', oneOp(b, '-', a))
		if wantOffset := oneOp(low, '-', oneOp(wantGain, '*', a)); !ok || !impl.Same(gain, wantGain) || !impl.Same(offset, wantOffset) {
			t.Fatal(a, b, low, high, gain, offset, ok, wantGain, wantOffset)
		}
	}
	for _, a := range odd {
		for _, b := range odd {
			for _, low := range odd {
				for _, high := range odd {
					check(a, b, low, high)
				}
			}
		}
	}
	for i := range len(some) - 3 {
		check(some[i], some[i+1], some[i+2], some[i+3])
		check(some[i], math.Nextafter(some[i], 2), some[i+2], some[i+3])
	}
	if _, _, ok := impl.Calibrate(0, minusZero(), 1, 2); ok {
		t.Error("0 and -0 are one number")
	}
	if gain, offset, ok := impl.Calibrate(1, 2, 5, 5); !ok || gain != 0 || offset != 5 {
		t.Error("low may be high", gain, offset, ok)
	}
}

// TestP12CalibratedComesBack: with whole numbers that divide, what is corrected is what it truly was.
func TestP12CalibratedComesBack(t *testing.T) {
	for a := -8.0; a <= 8; a++ {
		for _, wide := range []float64{1, 2, 4, 8, -1, -2, -4} {
			for _, low := range []float64{-20, 0, 3, 100} {
				for _, high := range []float64{-7, 0, 3, 99} {
					gain, offset, ok := impl.Calibrate(a, a+wide, low, high)
					if out := impl.Corrected([]float64{a, a + wide}, gain, offset); !ok || !slices.Equal(out, []float64{low, high}) {
						t.Fatal(a, wide, low, high, gain, offset, ok, out)
					}
				}
			}
		}
	}
}

func wantCorrected(list []float64, gain float64, offset float64) []float64 {
	var out []float64
	for _, x := range list {
		out = append(out, oneOp(oneOp(x, '*', gain), '+', offset))
	}
	return out
}

func TestP12Corrected(t *testing.T) {
	odd := oddParts()
	odd = append(odd, unknowns()...)
	check := func(list []float64, gain float64, offset float64) {
		t.Helper()
		kept := slices.Clone(list)
		out := impl.Corrected(list, gain, offset)
		if want := wantCorrected(list, gain, offset); !sameFloats(out, want) {
			t.Fatal(list, gain, offset, out, want)
		}
		for i := range out {
			out[i] = 77
		}
		if !sameFloats(list, kept) {
			t.Fatal("the list is changed", kept, list)
		}
	}
	for _, gain := range odd {
		for _, offset := range odd {
			check(odd, gain, offset)
		}
	}
	for seed := range int64(40) {
		p := someParts(seed, 2)
		for _, n := range []int{0, 1, 2, 20} {
			check(someParts(seed+100, n), p[0], p[1])
		}
	}
	// Each of these would be another one if a product were fused with its sum.
	check([]float64{1 + 0x1p-30, 1 - 0x1p-30}, 1+0x1p-30, -1)
	many := someParts(1, 1001)
	check(many[:1000], 0.5, 1)
	check(many[:999], 0.5, 1)
	if out := impl.Corrected(many, 0.5, 1); len(out) != 0 {
		t.Error("too many", len(out))
	}
	if out := impl.Corrected(slices.Repeat(many, 3), 0.5, 1); len(out) != 0 {
		t.Error("far too many", len(out))
	}
}

// wantValidate tells, of each, how many friends it has, and then who they are.
func wantValidate(list []float64, apart float64) (float64, []bool, bool) {
	friend := func(i int, j int) bool {
		return impl.Known(list[i]) && impl.Known(list[j]) && math.Abs(oneOp(list[i], '-', list[j])) <= apart
	}
	best, most := 0, 0
	for i := range list {
		n := 0
		for j := range list {
			if friend(i, j) {
				n++
			}
		}
		if n > most {
			best, most = i, n
		}
	}
	flags := make([]bool, len(list))
	if len(list) >= most+most {
		for i, x := range list {
			flags[i] = impl.Known(x)
		}
		return math.NaN(), flags, false
	}
	sum := 0.0
	for j, x := range list {
		if friend(best, j) {
			flags[j] = true
			sum = oneOp(sum, '+', x)
		}
	}
	return oneOp(sum, '/', float64(most)), flags, true
}

func validates(t *testing.T, list []float64, apart float64) (float64, []bool, bool) {
	t.Helper()
	kept := slices.Clone(list)
	x, flags, ok := impl.Validate(list, apart)
	if want, told, said := wantValidate(list, apart); !impl.Same(x, want) || !slices.Equal(flags, told) || ok != said {
		t.Fatal(list, apart, x, flags, ok, want, told, said)
	}
	if !sameFloats(list, kept) {
		t.Fatal("the list is changed", kept, list)
	}
	return x, flags, ok
}

func TestP12ValidateTold(t *testing.T) {
	nan, inf, low := math.NaN(), math.Inf(1), minusZero()
	for _, c := range []struct {
		name  string
		list  []float64
		apart float64
		x     float64
		flags []bool
		ok    bool
	}{
		{"one alone", []float64{7}, 0, 7, []bool{true}, true},
		{"one alone, -0 apart", []float64{7}, low, 7, []bool{true}, true},
		{"-0 alone", []float64{low}, 0, 0, []bool{true}, true},
		{"a broken one alone", []float64{nan}, 5, nan, []bool{false}, false},
		{"just at apart", []float64{1, 3}, 2, 2, []bool{true, true}, true},
		{"just above apart", []float64{1, 3}, math.Nextafter(2, 0), nan, []bool{true, true}, false},
		{"below it, too", []float64{3, 1}, 2, 2, []bool{true, true}, true},
		{"just half", []float64{1, 1, 9, 5}, 1, nan, []bool{true, true, true, true}, false},
		{"one more than half", []float64{1, 1, 9, 1}, 1, 1, []bool{true, true, false, true}, true},
		{"half of an odd number is less", []float64{1, 1, 9}, 1, 1, []bool{true, true, false}, true},
		{"broken ones count for half", []float64{1, 1, nan, inf}, 1, nan, []bool{true, true, false, false}, false},
		{"broken ones and one more", []float64{1, nan, 1, inf, 1}, 1, 1, []bool{true, false, true, false, true}, true},
		{"all broken", []float64{nan, inf, -inf}, 1, nan, []bool{false, false, false}, false},
		{"the best is the one amid", []float64{0, 1, 2}, 1, 1, []bool{true, true, true}, true},
		{"ties: the first", []float64{0, 2, 4, 6}, 2, 2, []bool{true, true, true, false}, true},
		{"ties: the first, turned round", []float64{6, 4, 2, 0}, 2, 4, []bool{true, true, true, false}, true},
		{"apart 0, the same twice", []float64{0.1, 0.1, 0.3}, 0, 0.1, []bool{true, true, false}, true},
		{"0 and -0 are not apart", []float64{0, low}, 0, 0, []bool{true, true}, true},
		{"a difference beyond the greatest float", []float64{mostFloat, -mostFloat}, mostFloat, nan, []bool{true, true}, false},
		{"one just there", []float64{mostFloat, 0, -mostFloat}, mostFloat, 0, []bool{true, true, true}, true},
		{"a sum beyond the greatest float", []float64{mostFloat, mostFloat}, 0, inf, []bool{true, true}, true},
		{"added from the left", []float64{1, 1e16, -1e16}, 1e300, 0, []bool{true, true, true}, true},
		{"and not from the right", []float64{-1e16, 1e16, 3}, 1e300, 1, []bool{true, true, true}, true},
	} {
		x, flags, ok := impl.Validate(c.list, c.apart)
		if !impl.Same(x, c.x) || !slices.Equal(flags, c.flags) || ok != c.ok {
			t.Error(c.name, x, flags, ok)
		}
		validates(t, c.list, c.apart)
	}
}

func TestP12ValidateRefused(t *testing.T) {
	many := someParts(5, 40)
	refused := func(list []float64, apart float64) {
		t.Helper()
		if x, flags, ok := impl.Validate(list, apart); ok || len(flags) != 0 || !math.IsNaN(x) {
			t.Error(len(list), apart, x, flags, ok)
		}
	}
	for _, apart := range []float64{0, 1, 10, mostFloat} {
		refused(nil, apart)
		refused([]float64{}, apart)
		refused(many[:17], apart)
		refused(many, apart)
		validates(t, many[:16], apart)
		validates(t, many[:15], apart)
	}
	for _, apart := range append(unknowns(), -1, -5e-324, -mostFloat) {
		for _, n := range []int{0, 1, 2, 16, 17} {
			refused(many[:n], apart)
		}
		refused(slices.Repeat([]float64{math.NaN()}, 3), apart)
	}
}

// channels: n instruments that tell tenths near one another, some of them others, some broken.
func channels(seed int64, n int) []float64 {
	list := make([]float64, n)
	kinds, tenths := someNumbers(seed, n, 0, 9), someNumbers(seed+1, n, -20, 20)
	for i := range list {
		list[i] = 50 + float64(tenths[i])/10
		if kinds[i] == 0 {
			list[i] = unknowns()[i%3]
		} else if kinds[i] <= 2 {
			list[i] *= 3
		}
	}
	return list
}

func TestP12MajorityAmongItsFriends(t *testing.T) {
	agreed := 0
	for seed := range int64(1500) {
		list := channels(2*seed, int(1+seed%16))
		for _, apart := range []float64{0, 0.1, 0.5, 1, 2, 5, 200} {
			x, flags, ok := validates(t, list, apart)
			if !ok {
				continue
			}
			agreed++
			least, most := math.Inf(1), math.Inf(-1)
			for i, friend := range flags {
				if friend {
					least, most = min(least, list[i]), max(most, list[i])
				}
			}
			if x < least-1e-6 || x > most+1e-6 {
				t.Fatal("not among its friends", list, apart, x, least, most)
			}
		}
	}
	if agreed < 1000 {
		t.Error("too few agree to tell", agreed)
	}
}

// changedBroken puts, in the place of each broken one, the next kind of a broken one.
func changedBroken(list []float64, turn int) []float64 {
	out := slices.Clone(list)
	for i, x := range out {
		if !impl.Known(x) {
			out[i] = unknowns()[(i+turn)%3]
		}
	}
	return out
}

func TestP12BrokenOnesChangeNothing(t *testing.T) {
	for seed := range int64(600) {
		list := channels(2*seed, int(1+seed%16))
		for turn := range 3 {
			other := changedBroken(list, turn)
			for _, apart := range []float64{0, 0.5, 2, 200} {
				x, flags, ok := impl.Validate(list, apart)
				if y, told, said := impl.Validate(other, apart); !impl.Same(x, y) || !slices.Equal(flags, told) || ok != said {
					t.Fatal("Validate", list, other, apart)
				}
				if !slices.Equal(impl.Drifts(list, apart), impl.Drifts(other, apart)) {
					t.Fatal("Drifts", list, other, apart)
				}
				if impl.Settled(list, 50, apart) != impl.Settled(other, 50, apart) {
					t.Fatal("Settled", list, other, apart)
				}
			}
		}
	}
}

func wantDrifts(list []float64, most float64) []int64 {
	var places []int64
	for i := range list {
		j := i - 1
		for j >= 0 && !impl.Known(list[j]) {
			j--
		}
		if j >= 0 && impl.Known(list[i]) && math.Abs(oneOp(list[i], '-', list[j])) > most {
			places = append(places, int64(i))
		}
	}
	return places
}

func drifts(t *testing.T, list []float64, most float64) {
	t.Helper()
	kept := slices.Clone(list)
	if places, told := impl.Drifts(list, most), wantDrifts(list, most); !slices.Equal(places, told) {
		t.Fatal(list, most, places, told)
	}
	if !sameFloats(list, kept) {
		t.Fatal("the list is changed", kept, list)
	}
}

func TestP12Drifts(t *testing.T) {
	nan, inf := math.NaN(), math.Inf(1)
	for _, c := range []struct {
		name string
		list []float64
		most float64
		told []int64
	}{
		{"none", nil, 0, nil},
		{"one", []float64{5}, -1, nil},
		{"just most", []float64{1, 3, 1}, 2, nil},
		{"just above", []float64{1, 3, 1}, math.Nextafter(2, 0), []int64{1, 2}},
		{"the same, most 0", []float64{4, 4, 4}, 0, nil},
		{"0 and -0", []float64{0, minusZero(), 0}, minusZero(), nil},
		{"most below 0", []float64{4, 4, nan, 4}, -5e-324, []int64{1, 3}},
		{"most far below 0", []float64{4, 4, nan, 4}, -inf, []int64{1, 3}},
		{"most an infinity", []float64{mostFloat, -mostFloat, 4}, inf, nil},
		{"the greatest most", []float64{mostFloat, -mostFloat, 4}, mostFloat, []int64{1}},
		{"most a NaN", []float64{1, 9, 1}, nan, nil},
		{"broken ones at the beginning", []float64{nan, inf, 9, 1}, 2, []int64{3}},
		{"and most below 0", []float64{nan, -inf, 9, 9}, -1, []int64{3}},
		{"broken ones between", []float64{1, nan, 2, inf, -inf, 9, nan}, 2, []int64{5}},
		{"the last known one counts", []float64{1, 9, nan, 9}, 2, []int64{1}},
		{"not one farther back", []float64{9, 1, nan, 9}, 2, []int64{1, 3}},
		{"all broken", []float64{nan, inf, -inf}, -1, nil},
	} {
		if places := impl.Drifts(c.list, c.most); !slices.Equal(places, c.told) {
			t.Error(c.name, places, c.told)
		}
	}
	for seed := range int64(400) {
		list := channels(2*seed, int(seed%40))
		for _, most := range []float64{-inf, -1, 0, 0.1, 0.5, 1, 50, inf} {
			drifts(t, list, most)
		}
	}
	odd := append(oddParts(), unknowns()...)
	for _, a := range odd {
		for _, b := range odd {
			for _, most := range append([]float64{inf, -inf}, oddParts()...) {
				if !math.IsNaN(most) {
					drifts(t, []float64{a, b, a, b, b}, most)
				}
			}
		}
	}
	many := channels(9, 1001)
	drifts(t, many[:1000], 0.5)
	for _, list := range [][]float64{many, slices.Repeat(many, 2)} {
		if places := impl.Drifts(list, 0.5); len(places) != 0 {
			t.Error("too many", len(list), len(places))
		}
	}
}

func wantSettled(list []float64, want float64, apart float64) int64 {
	at := int64(-1)
	for i, x := range list {
		held := impl.Known(x) && math.Abs(oneOp(x, '-', want)) <= apart
		if held && at < 0 {
			at = int64(i)
		}
		if !held {
			at = -1
		}
	}
	return at
}

func settles(t *testing.T, list []float64, want float64, apart float64) {
	t.Helper()
	kept := slices.Clone(list)
	if at, told := impl.Settled(list, want, apart), wantSettled(list, want, apart); at != told {
		t.Fatal(list, want, apart, at, told)
	}
	if !sameFloats(list, kept) {
		t.Fatal("the list is changed", kept, list)
	}
}

func TestP12Settled(t *testing.T) {
	nan, inf := math.NaN(), math.Inf(1)
	for _, c := range []struct {
		name        string
		list        []float64
		want, apart float64
		told        int64
	}{
		{"none", nil, 1, 1, -1},
		{"one", []float64{1}, 1, 0, 0},
		{"one, -0 apart", []float64{1}, 1, minusZero(), 0},
		{"just apart on both sides", []float64{4, 0, 2, 1}, 1, 1, 1},
		{"the last one not within", []float64{1, 1, 2.5}, 1, 1, -1},
		{"all within", []float64{1, 2, 0}, 1, 1, 0},
		{"the last one alone", []float64{1, 1, 9, 1}, 1, 1, 3},
		{"a NaN in want", []float64{1, 1}, nan, 1, -1},
		{"a NaN in apart", []float64{1, 1}, 1, nan, -1},
		{"apart below 0", []float64{1, 1}, 1, -5e-324, -1},
		{"an infinite apart", []float64{1, nan, mostFloat, 0}, -mostFloat, inf, 2},
		{"an infinite want", []float64{1, 1}, inf, mostFloat, -1},
		{"both infinite", []float64{1, inf, 1}, inf, inf, 2},
		{"infinities in the list", []float64{1, inf, 1, -inf, 1, 1}, 1, inf, 4},
		{"an infinity at the end", []float64{1, 1, inf}, inf, inf, -1},
		{"a NaN at the end", []float64{1, 1, nan}, 1, 1, -1},
		{"a difference beyond the greatest float", []float64{mostFloat}, -mostFloat, mostFloat, -1},
	} {
		if at := impl.Settled(c.list, c.want, c.apart); at != c.told {
			t.Error(c.name, at, c.told)
		}
	}
	for seed := range int64(600) {
		list := channels(2*seed, int(seed%17))
		for _, want := range []float64{50, 49.9, 150} {
			for _, apart := range []float64{-1, 0, 0.2, 1, 2, 110, inf} {
				settles(t, list, want, apart)
			}
		}
	}
	odd := append(oddParts(), unknowns()...)
	for _, a := range odd {
		for _, b := range odd {
			for _, c := range odd {
				settles(t, []float64{a, b, a}, c, 1)
				settles(t, []float64{a, 1, b}, 1, c)
			}
		}
	}
	many := slices.Repeat([]float64{1}, 1001)
	settles(t, many[:1000], 1, 0)
	for _, list := range [][]float64{many, slices.Repeat(many, 2)} {
		if at := impl.Settled(list, 1, 0); at != -1 {
			t.Error("too many", len(list), at)
		}
	}
}
