package tests

import (
	"math"
	"runtime"
	"slices"
	"testing"
	"time"

	"loop.example/g00062/impl"
)

func TestP14Constants(t *testing.T) {
	if impl.MaxRows != 300 || impl.VtBad != -1 || impl.VtNo != 0 || impl.VtTrip != 1 {
		t.Error("a limit or a vote")
	}
	if impl.ChGood != 0 || impl.ChTrip != 1 || impl.ChFailed != 2 || impl.ChBypass != 3 {
		t.Error("what a channel says")
	}
}

// allSays calls visit with every row of n of the first kinds sayings.
func allSays(n int, kinds int64, visit func([]int64)) {
	says := make([]int64, n)
	for {
		visit(says)
		i := 0
		for i < n && says[i] == kinds-1 {
			says[i] = 0
			i++
		}
		if i == n {
			return
		}
		says[i]++
	}
}

func howMany(says []int64, kinds ...int64) int64 {
	n := int64(0)
	for _, s := range says {
		if slices.Contains(kinds, s) {
			n++
		}
	}
	return n
}

// wantVote wants right arguments.
func wantVote(says []int64, need int64) int64 {
	left := int64(len(says)) - howMany(says, 3)
	trips := howMany(says, 1, 2)
	if left == 0 || trips >= need || left < need && trips == left {
		return 1
	}
	return 0
}

func TestP14EveryVote(t *testing.T) {
	for n := 1; n <= 8; n++ {
		allSays(n, 4, func(says []int64) {
			for need := int64(1); need <= int64(n); need++ {
				if v := impl.Vote(says, need); v != wantVote(says, need) {
					t.Fatal(says, need, v)
				}
			}
		})
	}
}

func TestP14VotesTold(t *testing.T) {
	for _, c := range []struct {
		name string
		says []int64
		need int64
		vote int64
	}{
		{"two of four", []int64{1, 0, 1, 0}, 2, 1},
		{"one of four", []int64{1, 0, 0, 0}, 2, 0},
		{"a failed one counts", []int64{2, 0, 1, 0}, 2, 1},
		{"two failed ones", []int64{2, 0, 2, 0}, 2, 1},
		{"all bypassed", []int64{3, 3, 3, 3}, 4, 1},
		{"the only one bypassed", []int64{3}, 1, 1},
		{"fewer left than need, all trip", []int64{3, 3, 3, 1}, 2, 1},
		{"fewer left than need, all failed", []int64{3, 2, 3, 2}, 3, 1},
		{"fewer left than need, one is good", []int64{3, 0, 3, 1}, 3, 0},
		{"fewer left than need, the one is good", []int64{3, 3, 3, 0}, 2, 0},
		{"as many left as need, all trip", []int64{3, 1, 3, 1}, 2, 1},
		{"as many left as need, one is good", []int64{3, 0, 3, 1}, 2, 0},
		{"eight of eight", slices.Repeat([]int64{1}, 8), 8, 1},
		{"seven of eight", []int64{1, 1, 1, 1, 0, 1, 1, 1}, 8, 0},
		{"one of one", []int64{1}, 1, 1},
		{"none of one", []int64{0}, 1, 0},
		{"no says", nil, 1, -1},
		{"no says and no need", nil, 0, -1},
		{"nine", make([]int64, 9), 1, -1},
		{"nine and a need of nine", slices.Repeat([]int64{1}, 9), 9, -1},
		{"a need of 0", []int64{1, 1}, 0, -1},
		{"a need below 0", []int64{1, 1}, -1, -1},
		{"a need as many", []int64{1, 1}, 2, 1},
		{"a need one more", []int64{1, 1}, 3, -1},
		{"a need one more, all bypassed", []int64{3, 3}, 3, -1},
		{"the greatest need", []int64{1, 1}, math.MaxInt64, -1},
		{"the least need", []int64{1, 1}, math.MinInt64, -1},
	} {
		kept := slices.Clone(c.says)
		if v := impl.Vote(c.says, c.need); v != c.vote {
			t.Error(c.name, v)
		}
		if !slices.Equal(c.says, kept) {
			t.Error(c.name, "the says are changed")
		}
	}
	for _, wrong := range []int64{-1, 4, 5, 256, 257, 1<<32 + 1, math.MinInt64, math.MaxInt64} {
		for n := 1; n <= 8; n++ {
			for place := range n {
				for kind := range int64(4) {
					says := slices.Repeat([]int64{kind}, n)
					says[place] = wrong
					if v := impl.Vote(says, 1); v != -1 {
						t.Error(says, v)
					}
				}
			}
		}
	}
}

// A role is what a channel has in TestP14EveryFailure: bypassed, stuck and saying one of three, or one of the rest.
const (
	roleBypass = 3
	roleRest   = 4
)

// wantTolerates asks Vote under every failure there is, of n channels with every share of roles.
func wantTolerates(n int, need int64) map[[2]int64][2]bool {
	borne := map[[2]int64][2]bool{}
	allSays(n, 5, func(roles []int64) {
		key := [2]int64{howMany(roles, roleBypass), howMany(roles, 0, 1, 2)}
		told, known := borne[key]
		if !known {
			told = [2]bool{true, true}
		}
		demand, quiet := slices.Clone(roles), slices.Clone(roles)
		for i, r := range roles {
			if r == roleRest {
				demand[i], quiet[i] = 1, 0
			}
		}
		told[0] = told[0] && impl.Vote(demand, need) == 1
		told[1] = told[1] && impl.Vote(quiet, need) == 0
		borne[key] = told
	})
	return borne
}

func TestP14EveryFailure(t *testing.T) {
	for n := 1; n <= 7; n++ {
		for need := int64(1); need <= int64(n); need++ {
			borne := wantTolerates(n, need)
			for bypass := int64(-1); bypass <= int64(n)+1; bypass++ {
				for stuck := int64(-1); stuck <= int64(n)+1; stuck++ {
					want := borne[[2]int64{bypass, stuck}]
					if a, b := impl.Tolerates(int64(n), need, bypass, stuck); a != want[0] || b != want[1] {
						t.Fatal(n, need, bypass, stuck, a, b, want)
					}
				}
			}
		}
	}
	for need := int64(1); need <= 8; need++ {
		for bypass := int64(0); bypass <= 8; bypass++ {
			for stuck := int64(0); stuck <= 8-bypass; stuck++ {
				left := 8 - bypass
				want := [2]bool{left-stuck >= need || stuck == 0, left > 0 && stuck < need && (stuck < left || stuck == 0)}
				if a, b := impl.Tolerates(8, need, bypass, stuck); a != want[0] || b != want[1] {
					t.Fatal(8, need, bypass, stuck, a, b, want)
				}
			}
		}
	}
}

func TestP14ToleratesTold(t *testing.T) {
	for _, c := range []struct {
		name                   string
		n, need, bypass, stuck int64
		trips, rests           bool
	}{
		{"two of four bear one and one", 4, 2, 1, 1, true, true},
		{"two of three do not", 3, 2, 1, 1, false, true},
		{"two of three bear one", 3, 2, 0, 1, true, true},
		{"none is left", 4, 2, 4, 0, true, false},
		{"one of one, nothing wrong", 1, 1, 0, 0, true, true},
		{"one of one, bypassed", 1, 1, 1, 0, true, false},
		{"one of one, stuck", 1, 1, 0, 1, false, false},
		{"one is left, less than need", 4, 2, 3, 0, true, true},
		{"one is left and stuck", 4, 2, 3, 1, false, false},
		{"all are stuck", 4, 2, 0, 4, false, false},
		{"eight", 8, 8, 0, 0, true, true},
		{"eight, one stuck", 8, 8, 0, 1, false, true},
		{"together n", 4, 2, 2, 2, false, false},
		{"together n + 1", 4, 2, 2, 3, false, false},
		{"bypass n + 1", 4, 2, 5, 0, false, false},
		{"stuck n + 1", 4, 2, 0, 5, false, false},
		{"bypass below 0", 4, 2, -1, 0, false, false},
		{"stuck below 0", 4, 2, 0, -1, false, false},
		{"together 0, one below 0", 4, 2, 1, -1, false, false},
		{"the other one below 0", 4, 2, -1, 1, false, false},
		{"n 0", 0, 0, 0, 0, false, false},
		{"n 0, need 1", 0, 1, 0, 0, false, false},
		{"n 9", 9, 2, 0, 0, false, false},
		{"n below 0", -1, 1, 0, 0, false, false},
		{"need 0", 4, 0, 0, 0, false, false},
		{"need n", 4, 4, 0, 0, true, true},
		{"need n + 1", 4, 5, 0, 0, false, false},
		{"need below 0", 4, -1, 0, 0, false, false},
		{"both the greatest", 4, 2, math.MaxInt64, math.MaxInt64, false, false},
		{"the greatest and 2", 4, 2, math.MaxInt64, 2, false, false},
		{"2 and the greatest", 4, 2, 2, math.MaxInt64, false, false},
		{"both the least", 4, 2, math.MinInt64, math.MinInt64, false, false},
		{"all the greatest", math.MaxInt64, math.MaxInt64, math.MaxInt64, math.MaxInt64, false, false},
		{"the greatest n", math.MaxInt64, 1, 0, 0, false, false},
	} {
		if a, b := impl.Tolerates(c.n, c.need, c.bypass, c.stuck); a != c.trips || b != c.rests {
			t.Error(c.name, a, b)
		}
	}
}

// TestP14TwoThatTripAreNotHidden: neither a bypass nor a failed channel takes a trip away, and two that trip are enough where two are asked for.
func TestP14TwoThatTripAreNotHidden(t *testing.T) {
	for n := 2; n <= 7; n++ {
		allSays(n, 4, func(says []int64) {
			for need := int64(1); need <= int64(n); need++ {
				if need <= 2 && howMany(says, 1) >= 2 && impl.Vote(says, need) != 1 {
					t.Fatal("two that trip are hidden", says, need)
				}
				if impl.Vote(says, need) != 1 {
					continue
				}
				for i, s := range says {
					for _, other := range []int64{2, 3} {
						if s == 0 || s == 1 && other == 2 {
							changed := slices.Clone(says)
							changed[i] = other
							if impl.Vote(changed, need) != 1 {
								t.Fatal("a trip is taken away", says, changed, need)
							}
						}
					}
				}
			}
		})
	}
}

func pointOf(set float64, reset float64, above bool) impl.Point {
	return impl.Point{Set: set, Reset: reset, Above: above}
}

func rightPointsOf(above bool) []impl.Point {
	sign := 1.0
	if !above {
		sign = -1
	}
	var list []impl.Point
	for _, p := range [][2]float64{
		{100, 90}, {100, 100}, {0, minusZero()}, {minusZero(), 0}, {0, 0}, {1, math.Nextafter(1, 0)}, {mostFloat, -mostFloat},
		{math.SmallestNonzeroFloat64, 0}, {-5, -5.5}, {mostFloat, mostFloat}, {0.3, 0.1},
	} {
		list = append(list, pointOf(sign*p[0], sign*p[1], above))
	}
	return list
}

func wrongPointsOf() []impl.Point {
	var list []impl.Point
	for _, above := range []bool{false, true} {
		for _, x := range unknowns() {
			list = append(list, pointOf(x, 5, above), pointOf(5, x, above), pointOf(x, x, above))
		}
	}
	return append(list,
		pointOf(90, 100, true), pointOf(100, 90, false), pointOf(1, math.Nextafter(1, 2), true), pointOf(1, math.Nextafter(1, 0), false),
		pointOf(-mostFloat, mostFloat, true), pointOf(mostFloat, -mostFloat, false),
		pointOf(math.Inf(1), math.Inf(-1), true), pointOf(math.Inf(-1), math.Inf(1), false),
		pointOf(0, math.SmallestNonzeroFloat64, true), pointOf(0, -math.SmallestNonzeroFloat64, false))
}

func measured(p impl.Point) []float64 {
	list := []float64{0, minusZero(), 1, -1, mostFloat, -mostFloat, math.SmallestNonzeroFloat64, -math.SmallestNonzeroFloat64, p.Set/2 + p.Reset/2}
	for _, x := range []float64{p.Set, p.Reset} {
		for _, near := range []float64{x, math.Nextafter(x, -mostFloat), math.Nextafter(x, mostFloat), x + 1, x - 1} {
			list = append(list, near)
		}
	}
	return append(list, unknowns()...)
}

// wantSays wants a right Point. Turned about, one without Above is one with it.
func wantSays(p impl.Point, on bool, x float64) int64 {
	if math.IsNaN(x) || math.IsInf(x, 0) {
		return 2
	}
	set, reset := p.Set, p.Reset
	if !p.Above {
		set, reset, x = -set, -reset, -x
	}
	switch {
	case x >= set:
		return 1
	case x <= reset:
		return 0
	case on:
		return 1
	}
	return 0
}

func TestP14SaysTold(t *testing.T) {
	above, below := pointOf(100, 90, true), pointOf(10, 20, false)
	flat, low := pointOf(50, 50, true), pointOf(50, 50, false)
	for _, c := range []struct {
		name string
		p    impl.Point
		on   bool
		x    float64
		says int64
	}{
		{"at Set", above, false, 100, impl.ChTrip},
		{"at Set, on", above, true, 100, impl.ChTrip},
		{"just below Set", above, false, math.Nextafter(100, 0), impl.ChGood},
		{"just below Set, on", above, true, math.Nextafter(100, 0), impl.ChTrip},
		{"between", above, false, 95, impl.ChGood},
		{"between, on", above, true, 95, impl.ChTrip},
		{"just above Reset, on", above, true, math.Nextafter(90, 100), impl.ChTrip},
		{"at Reset", above, false, 90, impl.ChGood},
		{"at Reset, on", above, true, 90, impl.ChGood},
		{"below Reset, on", above, true, 0, impl.ChGood},
		{"without Above: at Set", below, false, 10, impl.ChTrip},
		{"without Above: just above Set", below, false, math.Nextafter(10, 11), impl.ChGood},
		{"without Above: just above Set, on", below, true, math.Nextafter(10, 11), impl.ChTrip},
		{"without Above: between", below, false, 15, impl.ChGood},
		{"without Above: between, on", below, true, 15, impl.ChTrip},
		{"without Above: at Reset, on", below, true, 20, impl.ChGood},
		{"without Above: below Set", below, false, -5, impl.ChTrip},
		{"Reset equal to Set, at it", flat, false, 50, impl.ChTrip},
		{"Reset equal to Set, at it, on", flat, true, 50, impl.ChTrip},
		{"Reset equal to Set, below it, on", flat, true, math.Nextafter(50, 0), impl.ChGood},
		{"both equal without Above, at it", low, true, 50, impl.ChTrip},
		{"both equal without Above, above it, on", low, true, math.Nextafter(50, 60), impl.ChGood},
		{"0 is at least -0", pointOf(minusZero(), minusZero(), true), false, 0, impl.ChTrip},
		{"-0 is at least 0", pointOf(0, 0, true), false, minusZero(), impl.ChTrip},
		{"a NaN", above, true, math.NaN(), impl.ChFailed},
		{"an infinity", above, false, math.Inf(1), impl.ChFailed},
		{"the other infinity", above, false, math.Inf(-1), impl.ChFailed},
		{"an infinity without Above", below, false, math.Inf(-1), impl.ChFailed},
		{"the greatest number", above, false, mostFloat, impl.ChTrip},
		{"the least number", below, false, -mostFloat, impl.ChTrip},
		{"the zero value", impl.Point{}, false, 0, impl.ChTrip},
		{"the zero value, above it", impl.Point{}, true, 1, impl.ChGood},
	} {
		if says := impl.Says(c.p, c.on, c.x); says != c.says {
			t.Error(c.name, says)
		}
	}
}

func TestP14Says(t *testing.T) {
	for _, above := range []bool{false, true} {
		for _, p := range rightPointsOf(above) {
			for _, x := range measured(p) {
				for _, on := range []bool{false, true} {
					if says := impl.Says(p, on, x); says != wantSays(p, on, x) {
						t.Error(p, on, x, says)
					}
				}
			}
		}
	}
	for _, p := range wrongPointsOf() {
		for _, x := range measured(p) {
			if a, b := impl.Says(p, false, x), impl.Says(p, true, x); a != impl.ChFailed || b != impl.ChFailed {
				t.Error(p, x, a, b)
			}
		}
	}
}

func sameGuard(a impl.Guard, b impl.Guard) bool {
	return a.Latched == b.Latched && slices.Equal(a.On, b.On)
}

func guardOf(latched bool, on ...bool) impl.Guard {
	return impl.Guard{On: on, Latched: latched}
}

func guardCopy(g impl.Guard) impl.Guard {
	return guardOf(g.Latched, slices.Clone(g.On)...)
}

// wrongGuards are of none and of too many.
func wrongGuards() []impl.Guard {
	return []impl.Guard{{}, {Latched: true}, {On: []bool{}}, guardOf(false, make([]bool, 9)...), guardOf(true, slices.Repeat([]bool{true}, 9)...), guardOf(false, make([]bool, 300)...)}
}

func TestP14NewGuard(t *testing.T) {
	for _, n := range []int64{math.MinInt64, -1, 0, 1, 2, 3, 4, 5, 6, 7, 8, 9, 10, 1 << 32, math.MaxInt64} {
		g := impl.NewGuard(n)
		if n < 1 || n > 8 {
			if !sameGuard(g, impl.Guard{}) {
				t.Error(n, g)
			}
		} else if !sameGuard(g, guardOf(false, make([]bool, n)...)) {
			t.Error(n, g)
		}
	}
	a, b := impl.NewGuard(3), impl.NewGuard(3)
	a.On[1] = true
	if b.On[1] || impl.NewGuard(3).On[1] {
		t.Error("guards share their flags")
	}
}

// wantGuard wants right arguments.
func wantGuard(p impl.Point, need int64, g impl.Guard, xs []float64, bypass []bool, reset bool) (impl.Guard, int64) {
	next, says := guardCopy(g), []int64{}
	for i, x := range xs {
		said := wantSays(p, g.On[i], x)
		switch {
		case bypass[i]:
			said = 3
		case said == 1:
			next.On[i] = true
		case said == 0:
			next.On[i] = false
		}
		says = append(says, said)
	}
	v := wantVote(says, need)
	next.Latched = v == 1 || g.Latched && !reset
	return next, v
}

func stepsGuard(t *testing.T, p impl.Point, need int64, g impl.Guard, xs []float64, bypass []bool, reset bool) (impl.Guard, int64) {
	t.Helper()
	keptG, keptXs, keptBypass := guardCopy(g), slices.Clone(xs), slices.Clone(bypass)
	next, v := impl.GuardStep(p, need, g, xs, bypass, reset)
	if told, vote := wantGuard(p, need, g, xs, bypass, reset); !sameGuard(next, told) || v != vote {
		t.Fatal(p, need, g, xs, bypass, reset, next, v, told, vote)
	}
	if !sameGuard(g, keptG) || !sameFloats(xs, keptXs) || !slices.Equal(bypass, keptBypass) {
		t.Fatal("an argument is changed")
	}
	return next, v
}

// flagsOf are the lowest n bits of row.
func flagsOf(row int, n int) []bool {
	flags := make([]bool, n)
	for i := range flags {
		flags[i] = row>>i&1 == 1
	}
	return flags
}

// TestP14EveryStep goes through all of up to three channels, and some of more.
func TestP14EveryStep(t *testing.T) {
	above, below := pointOf(100, 90, true), pointOf(-100, -90, false)
	values := []float64{100, 95, 90, math.NaN(), math.Inf(1)}
	for n := 1; n <= 3; n++ {
		allSays(n, int64(len(values)), func(row []int64) {
			xs, turned := make([]float64, n), make([]float64, n)
			for i, k := range row {
				xs[i], turned[i] = values[k], -values[k]
			}
			for flags := range 1 << n {
				for out := range 1 << n {
					for need := int64(1); need <= int64(n); need++ {
						for kind := range 4 {
							g := guardOf(kind&1 == 1, flagsOf(flags, n)...)
							a, v := stepsGuard(t, above, need, g, xs, flagsOf(out, n), kind&2 == 2)
							b, w := stepsGuard(t, below, need, g, turned, flagsOf(out, n), kind&2 == 2)
							if !sameGuard(a, b) || v != w {
								t.Fatal("a guard turned about", g, xs, a, b)
							}
						}
					}
				}
			}
		})
	}
	for seed := range int64(2000) {
		n := 1 + int(seed%8)
		draws := someNumbers(seed, 2*n+3, 0, 1000000)
		xs := make([]float64, n)
		for i := range xs {
			xs[i] = []float64{100, 101, 95, 90, 80, math.NaN(), math.Inf(-1), 99.5}[draws[i]%8]
		}
		g := guardOf(draws[2*n]%2 == 1, flagsOf(int(draws[2*n+1]), n)...)
		stepsGuard(t, above, 1+draws[2*n+2]%int64(n), g, xs, flagsOf(int(draws[n]), n), draws[n+1]%2 == 1)
	}
}

func TestP14StepsTold(t *testing.T) {
	p := pointOf(100, 90, true)
	nan := math.NaN()
	for _, c := range []struct {
		name   string
		need   int64
		g      impl.Guard
		xs     []float64
		bypass []bool
		reset  bool
		next   impl.Guard
		vote   int64
	}{
		{"nothing", 1, guardOf(false, false), []float64{0}, []bool{false}, false, guardOf(false, false), 0},
		{"a demand", 1, guardOf(false, false), []float64{100}, []bool{false}, false, guardOf(true, true), 1},
		{"a demand and a reset", 1, guardOf(false, false), []float64{100}, []bool{false}, true, guardOf(true, true), 1},
		{"latched stays", 1, guardOf(true, true), []float64{90}, []bool{false}, false, guardOf(true, false), 0},
		{"latched leaves by a reset", 1, guardOf(true, true), []float64{90}, []bool{false}, true, guardOf(false, false), 0},
		{"not by a reset above Reset", 1, guardOf(true, true), []float64{95}, []bool{false}, true, guardOf(true, true), 1},
		{"a reset of nothing", 1, guardOf(false, false), []float64{0}, []bool{false}, true, guardOf(false, false), 0},
		{"a bypassed one keeps its flag on", 1, guardOf(false, true, false), []float64{0, 0}, []bool{true, false}, false, guardOf(false, true, false), 0},
		{"a bypassed one keeps its flag off", 1, guardOf(false, false, false), []float64{200, 0}, []bool{true, false}, false, guardOf(false, false, false), 0},
		{"a bypassed one that has failed", 1, guardOf(false, true, false), []float64{nan, 0}, []bool{true, false}, false, guardOf(false, true, false), 0},
		{"a failed one keeps its flag on", 2, guardOf(false, true, false), []float64{nan, 0}, []bool{false, false}, false, guardOf(false, true, false), 0},
		{"a failed one keeps its flag off", 2, guardOf(false, false, false), []float64{nan, 0}, []bool{false, false}, false, guardOf(false, false, false), 0},
		{"a failed one and one that trips", 2, guardOf(false, false, false), []float64{nan, 100}, []bool{false, false}, false, guardOf(true, false, true), 1},
		{"all bypassed", 2, guardOf(false, true, false), []float64{0, 0}, []bool{true, true}, true, guardOf(true, true, false), 1},
		{"one left of a need of two", 2, guardOf(false, false, false), []float64{0, 100}, []bool{true, false}, false, guardOf(true, false, true), 1},
	} {
		next, v := stepsGuard(t, p, c.need, c.g, c.xs, c.bypass, c.reset)
		if !sameGuard(next, c.next) || v != c.vote {
			t.Error(c.name, next, v)
		}
	}
}

func TestP14StepsRefused(t *testing.T) {
	p := pointOf(100, 90, true)
	refused := func(p impl.Point, need int64, g impl.Guard, xs []float64, bypass []bool) {
		t.Helper()
		for _, reset := range []bool{false, true} {
			if next, v := impl.GuardStep(p, need, g, xs, bypass, reset); v != impl.VtBad || !sameGuard(next, impl.Guard{}) {
				t.Error(p, need, g, xs, bypass, next, v)
			}
			rows := []impl.Row{{Xs: xs, Bypass: bypass, Reset: reset}}
			if out, next, ok := impl.GuardRun(p, need, g, rows); ok || len(out) != 0 || !sameGuard(next, impl.Guard{}) {
				t.Error(p, need, g, xs, bypass, out, next, ok)
			}
		}
	}
	for _, wrong := range wrongPointsOf() {
		refused(wrong, 1, guardOf(true, true), []float64{100}, []bool{false})
		refused(wrong, 2, guardOf(true, true, false), []float64{100, 100}, []bool{true, true})
		refused(wrong, 0, impl.Guard{}, nil, nil)
	}
	for _, g := range wrongGuards() {
		n := len(g.On)
		for _, need := range []int64{0, 1, 2, int64(n)} {
			refused(p, need, g, make([]float64, n), make([]bool, n))
		}
	}
	for n := 1; n <= 8; n++ {
		g := guardOf(true, make([]bool, n)...)
		for _, need := range []int64{0, -1, int64(n) + 1, math.MinInt64, math.MaxInt64} {
			refused(p, need, g, make([]float64, n), make([]bool, n))
		}
		for _, many := range []int{0, n - 1, n + 1, 9, 300} {
			if many != n {
				refused(p, 1, g, make([]float64, many), make([]bool, n))
				refused(p, 1, g, make([]float64, n), make([]bool, many))
				refused(p, 1, g, make([]float64, many), make([]bool, many))
			}
		}
		refused(p, 1, g, nil, nil)
		if _, v := impl.GuardStep(p, int64(n), g, make([]float64, n), make([]bool, n), false); v != 0 {
			t.Error("a right one", n, v)
		}
	}
}

// TestP14DemandsTrip: what Tolerates tells to be borne does not keep a guard from its trip, nor trip it.
func TestP14DemandsTrip(t *testing.T) {
	p := pointOf(100, 90, true)
	stuckAt := []float64{0, 200, math.NaN(), 95, math.Inf(-1)}
	for n := 1; n <= 4; n++ {
		allSays(n, int64(len(stuckAt))+2, func(row []int64) {
			bypass, demand, quiet := make([]bool, n), make([]float64, n), make([]float64, n)
			stuck := int64(0)
			for i, k := range row {
				switch k {
				case 0:
					bypass[i] = true
				case 1:
					demand[i], quiet[i] = 100, 90
				default:
					demand[i], quiet[i] = stuckAt[k-2], stuckAt[k-2]
					stuck++
				}
			}
			for need := int64(1); need <= int64(n); need++ {
				trips, rests := impl.Tolerates(int64(n), need, howMany(row, 0), stuck)
				for flags := range 1 << n {
					g := guardOf(false, flagsOf(flags, n)...)
					if next, v := impl.GuardStep(p, need, g, demand, bypass, true); trips && (v != 1 || !next.Latched) {
						t.Fatal("a demand does not trip", need, g, demand, bypass)
					}
					if next, v := impl.GuardStep(p, need, g, quiet, bypass, false); rests && (v != 0 || next.Latched) {
						t.Fatal("it trips without a demand", need, g, quiet, bypass)
					}
				}
			}
		})
	}
}

// someRows are cycles of n channels that go up and down, fail and are bypassed now and then.
func someRows(seed int64, n int, many int) []impl.Row {
	rows := make([]impl.Row, many)
	draws := someNumbers(seed, many*(n+1), 0, 1<<40)
	for i := range rows {
		part := draws[i*(n+1) : (i+1)*(n+1)]
		r := impl.Row{Xs: make([]float64, n), Bypass: flagsOf(int(part[n]&(part[n]>>8)&(part[n]>>16)), n), Reset: part[n]>>30%3 == 0}
		for k := range n {
			r.Xs[k] = float64(70+part[k]%32) + 0.5
			if part[k]>>20%25 == 0 {
				r.Xs[k] = unknowns()[part[k]%3]
			}
		}
		rows[i] = r
	}
	return rows
}

func rowsCopy(rows []impl.Row) []impl.Row {
	out := make([]impl.Row, len(rows))
	for i, r := range rows {
		out[i] = impl.Row{Xs: slices.Clone(r.Xs), Bypass: slices.Clone(r.Bypass), Reset: r.Reset}
	}
	return out
}

func sameRows(a []impl.Row, b []impl.Row) bool {
	return slices.EqualFunc(a, b, func(r impl.Row, s impl.Row) bool {
		return sameFloats(r.Xs, s.Xs) && slices.Equal(r.Bypass, s.Bypass) && r.Reset == s.Reset
	})
}

func TestP14Runs(t *testing.T) {
	p := pointOf(100, 90, true)
	trips, leaves := 0, 0
	for seed := range int64(48) {
		n := 1 + int(seed%8)
		need := 1 + seed%int64(min(n, 3))
		many := []int{0, 1, 2, 17, 150, 300}[seed%6]
		rows, g := someRows(seed, n, many), guardOf(seed%3 == 0, flagsOf(int(seed), n)...)
		keptRows, keptG := rowsCopy(rows), guardCopy(g)
		out, last, ok := impl.GuardRun(p, need, g, rows)
		if !ok || len(out) != many {
			t.Fatal(seed, len(out), ok)
		}
		now := guardCopy(g)
		for i, r := range rows {
			next, v := stepsGuard(t, p, need, now, r.Xs, r.Bypass, r.Reset)
			if out[i] != next.Latched {
				t.Fatal("not what the step says", seed, i)
			}
			if v == 1 && !next.Latched || v == 0 && !now.Latched && next.Latched {
				t.Fatal("latched without a demand, or not with one", seed, i)
			}
			if now.Latched && !next.Latched {
				leaves++
				if v != 0 || !r.Reset {
					t.Fatal("a latch leaves but by a reset without a demand", seed, i)
				}
			}
			if now.Latched && next.Latched && v == 0 && r.Reset {
				t.Fatal("a reset without a demand does not help", seed, i)
			}
			if v == 1 {
				trips++
			}
			now = next
		}
		if !sameGuard(now, last) {
			t.Fatal(seed, now, last)
		}
		cut := many / 3
		first, mid, ok1 := impl.GuardRun(p, need, g, rows[:cut])
		second, end, ok2 := impl.GuardRun(p, need, mid, rows[cut:])
		if !ok1 || !ok2 || !slices.Equal(append(first, second...), out) || !sameGuard(end, last) {
			t.Fatal("in two pieces", seed)
		}
		if !sameRows(rows, keptRows) || !sameGuard(g, keptG) {
			t.Fatal("an argument is changed")
		}
	}
	if trips < 100 || leaves < 50 {
		t.Fatal("the runs are too quiet to tell", trips, leaves)
	}
}

func TestP14RunsOfNoneAndTooMany(t *testing.T) {
	p := pointOf(100, 90, true)
	g := guardOf(true, true, false)
	if out, last, ok := impl.GuardRun(p, 2, g, nil); !ok || len(out) != 0 || !sameGuard(last, g) {
		t.Error("no rows", out, last, ok)
	}
	// Where there is no step, none is VtBad.
	for _, wrong := range append(wrongGuards(), g) {
		for _, need := range []int64{-1, 0, 1, 3} {
			if out, last, ok := impl.GuardRun(impl.Point{Set: math.NaN()}, need, wrong, nil); !ok || len(out) != 0 || !sameGuard(last, wrong) {
				t.Error("no rows of a wrong guard", need, out, last, ok)
			}
		}
	}
	rows := someRows(3, 2, 302)
	for _, many := range []int{299, 300, 301, 302} {
		out, last, ok := impl.GuardRun(p, 2, g, rows[:many])
		if ok != (many <= 300) || ok && len(out) != many || !ok && (len(out) != 0 || !sameGuard(last, impl.Guard{})) {
			t.Error(many, len(out), last, ok)
		}
	}
	if out, last, ok := impl.GuardRun(p, 2, g, make([]impl.Row, 5000)); ok || len(out) != 0 || !sameGuard(last, impl.Guard{}) {
		t.Error("far too many", out, last, ok)
	}
}

func TestP14RunsWithABadRow(t *testing.T) {
	p := pointOf(100, 90, true)
	g := guardOf(false, false, false, false)
	bad := []impl.Row{
		{}, {Xs: []float64{1, 2}, Bypass: make([]bool, 3)}, {Xs: []float64{1, 2, 3, 4}, Bypass: make([]bool, 3)},
		{Xs: []float64{1, 2, 3}, Bypass: make([]bool, 2)}, {Xs: []float64{1, 2, 3}, Bypass: make([]bool, 4), Reset: true},
		{Xs: []float64{1, 2, 3}}, {Bypass: make([]bool, 3)}, {Xs: []float64{1, 2}, Bypass: make([]bool, 2)},
	}
	for _, many := range []int{1, 2, 9, 300} {
		for _, place := range []int{0, many / 2, many - 1} {
			for _, wrong := range bad {
				rows := someRows(int64(many), 3, many)
				if _, _, ok := impl.GuardRun(p, 2, g, rows); !ok {
					t.Fatal("the rows themselves are right")
				}
				rows[place] = wrong
				if out, last, ok := impl.GuardRun(p, 2, g, rows); ok || len(out) != 0 || !sameGuard(last, impl.Guard{}) {
					t.Error(many, place, wrong, out, last, ok)
				}
			}
		}
	}
}

func TestP14GuardsShareNoMemory(t *testing.T) {
	p := pointOf(100, 90, true)
	flags := []bool{true, false, true, false, true}
	kept := slices.Clone(flags)
	g := guardOf(false, flags[:2]...)
	xs, bypass := []float64{math.NaN(), 95}, []bool{false, true}
	row := impl.Row{Xs: xs, Bypass: bypass}
	answers := func() [][]bool {
		next, _ := impl.GuardStep(p, 2, g, xs, bypass, false)
		out, last, _ := impl.GuardRun(p, 2, g, []impl.Row{row, row})
		none, same, _ := impl.GuardRun(p, 2, g, nil)
		return [][]bool{next.On, out, last.On, none, same.On}
	}
	for i, list := range answers() {
		for k := range list {
			list[k] = !list[k]
		}
		_ = append(list, true, true, true)
		if !slices.Equal(flags, kept) || !slices.Equal(bypass, []bool{false, true}) {
			t.Fatal("an answer stands in an argument", i)
		}
	}
	lists := answers()
	clear(flags)
	bypass[0], bypass[1] = true, false
	for i, want := range [][]bool{{true, false}, {true, true}, {true, false}, {}, {true, false}} {
		if !slices.Equal(lists[i], want) {
			t.Fatal("an argument stands in an answer", i, lists[i])
		}
	}
	for i := range lists {
		clear(lists[i])
		for k := i + 1; k < len(lists); k++ {
			if len(lists[k]) > 0 && !lists[k][0] {
				t.Fatal("two answers share their memory", i, k)
			}
		}
	}
}

// TestP14TrainsHaveEnded: however often a guard steps, no goroutine is left behind.
func TestP14TrainsHaveEnded(t *testing.T) {
	before := runtime.NumGoroutine()
	rows := someRows(5, 8, 300)
	for range 20 {
		impl.GuardRun(pointOf(100, 90, true), 2, impl.NewGuard(8), rows)
	}
	for range 5000 {
		// One that has closed its channel may still be on its way out.
		if runtime.NumGoroutine() <= before {
			return
		}
		time.Sleep(time.Millisecond)
	}
	t.Error(before, runtime.NumGoroutine())
}
