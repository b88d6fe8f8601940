package tests

import (
	"math"
	"math/big"
	"slices"
	"testing"

	"loop.example/g00062/impl"
)

// plainLoop has Low and High wide apart.
func plainLoop() impl.Loop {
	return impl.Loop{P: 3, I: 2, D: 1, Scale: 7, Low: -1000, High: 1000, Back: 5}
}

// loopBounds: each field of a Loop with its bounds, Low and High left out.
func loopBounds() []struct {
	field     func(*impl.Loop) *int64
	low, high int64
} {
	return []struct {
		field     func(*impl.Loop) *int64
		low, high int64
	}{
		{func(l *impl.Loop) *int64 { return &l.P }, 0, 1000},
		{func(l *impl.Loop) *int64 { return &l.I }, 0, 1000},
		{func(l *impl.Loop) *int64 { return &l.D }, 0, 1000},
		{func(l *impl.Loop) *int64 { return &l.Scale }, 1, 1000},
		{func(l *impl.Loop) *int64 { return &l.Back }, 0, 10},
	}
}

func withEnds(low int64, high int64) impl.Loop {
	l := plainLoop()
	l.Low, l.High = low, high
	return l
}

func rightLoops() []impl.Loop {
	list := []impl.Loop{
		plainLoop(), {Scale: 1}, withEnds(-1000000, 1000000), withEnds(-1000000, -1000000), withEnds(1000000, 1000000),
		withEnds(0, 0), withEnds(7, 8), withEnds(-8, -7),
		{P: 1000, I: 1000, D: 1000, Scale: 1, Low: -1000000, High: 1000000, Back: 10},
		{P: 1000, I: 1000, D: 1000, Scale: 1000, Low: -1000000, High: 1000000},
	}
	for _, b := range loopBounds() {
		for _, n := range []int64{b.low, b.high} {
			l := plainLoop()
			*b.field(&l) = n
			list = append(list, l)
		}
	}
	return list
}

func wrongLoops() []impl.Loop {
	list := []impl.Loop{
		{}, withEnds(1, 0), withEnds(1000, -1000), withEnds(-1000001, 0), withEnds(0, 1000001),
		withEnds(1000001, 1000001), withEnds(-1000001, -1000001),
		withEnds(math.MinInt64, math.MaxInt64), withEnds(math.MaxInt64, math.MinInt64),
	}
	for _, b := range loopBounds() {
		for _, n := range []int64{b.low - 1, b.high + 1, math.MinInt64, math.MaxInt64} {
			l := plainLoop()
			*b.field(&l) = n
			list = append(list, l)
		}
	}
	return list
}

func rightHolds(l impl.Loop) []impl.Hold {
	list := []impl.Hold{{}}
	for _, sum := range []int64{-1000000000, -999999999, -5, 0, 7, 1000000000} {
		for _, last := range []int64{-2000000, -1, 0, 1, 2000000} {
			list = append(list, impl.Hold{On: true, Sum: sum, Last: last, Out: l.Low}, impl.Hold{On: true, Sum: sum, Last: last, Out: l.High})
		}
	}
	return list
}

func wrongHolds(l impl.Loop) []impl.Hold {
	list := []impl.Hold{{Sum: 1}, {Sum: -1}, {Last: 1}, {Last: -1}, {Out: 1}, {Out: -1}, {Sum: 5, Last: 5, Out: 5}}
	for _, n := range []int64{-1000000001, 1000000001, math.MinInt64, math.MaxInt64} {
		list = append(list, impl.Hold{On: true, Sum: n, Out: l.Low})
	}
	for _, n := range []int64{-2000001, 2000001, math.MinInt64, math.MaxInt64} {
		list = append(list, impl.Hold{On: true, Last: n, Out: l.Low})
	}
	for _, n := range []int64{l.Low - 1, l.High + 1, math.MinInt64, math.MaxInt64} {
		list = append(list, impl.Hold{On: true, Out: n})
	}
	return list
}

// rightPoints and wrongPoints are what want and seen may and may not be.
func rightPoints() []int64 {
	return []int64{-1000000, -999999, -13, -1, 0, 1, 8, 999999, 1000000}
}

func wrongPoints() []int64 {
	return []int64{-1000001, 1000001, math.MinInt64, math.MaxInt64}
}

// floorBy goes by big numbers, whose Div leaves nothing below 0.
func floorBy(n int64, by int64) int64 {
	return new(big.Int).Div(big.NewInt(n), big.NewInt(by)).Int64()
}

func wantLoop(l impl.Loop, h impl.Hold, want int64, seen int64) impl.Hold {
	e, d := want-seen, int64(0)
	if h.On {
		d = e - h.Last
	}
	s := h.Sum + e
	r := floorBy(l.P*e+l.I*s+l.D*d, l.Scale)
	out := r
	if out < l.Low {
		out = l.Low
	}
	if out > l.High {
		out = l.High
	}
	sum := s + floorBy(l.Back*(out-r), 10)
	if sum < -1000000000 {
		sum = -1000000000
	}
	if sum > 1000000000 {
		sum = 1000000000
	}
	return impl.Hold{On: true, Sum: sum, Last: e, Out: out}
}

func TestP10RightLoops(t *testing.T) {
	for _, l := range rightLoops() {
		for _, h := range rightHolds(l) {
			if !impl.LoopOk(l, h) {
				t.Error("right", l, h)
			}
		}
		for _, h := range wrongHolds(l) {
			if impl.LoopOk(l, h) {
				t.Error("not its own", l, h)
			}
			if next, ok := impl.LoopStep(l, h, 0, 0); ok || next != (impl.Hold{}) {
				t.Error("not its own", l, h, next, ok)
			}
		}
	}
	for _, l := range wrongLoops() {
		for _, h := range []impl.Hold{{}, {On: true, Out: l.Low}, {On: true, Out: l.High}, {On: true}} {
			if impl.LoopOk(l, h) {
				t.Error("not right", l, h)
			}
			if next, ok := impl.LoopStep(l, h, 0, 0); ok || next != (impl.Hold{}) {
				t.Error("not right", l, h, next, ok)
			}
		}
	}
}

// stepSame asks a step that must be done, and what is promised of it.
func stepSame(t *testing.T, l impl.Loop, h impl.Hold, want int64, seen int64) impl.Hold {
	t.Helper()
	next, ok := impl.LoopStep(l, h, want, seen)
	if told := wantLoop(l, h, want, seen); !ok || next != told {
		t.Fatal(l, h, want, seen, next, ok, told)
	}
	if next.Out < l.Low || next.Out > l.High {
		t.Fatal("an Out beyond its bounds", l, next)
	}
	if next.Sum < -1000000000 || next.Sum > 1000000000 {
		t.Fatal("a Sum beyond its bounds", l, next)
	}
	if !impl.LoopOk(l, next) {
		t.Fatal("what a step leaves is not right", l, next)
	}
	return next
}

func TestP10Steps(t *testing.T) {
	for _, l := range rightLoops() {
		for _, h := range rightHolds(l) {
			for _, want := range rightPoints() {
				for _, seen := range rightPoints() {
					stepSame(t, l, h, want, seen)
				}
			}
		}
	}
}

func TestP10StepsRefused(t *testing.T) {
	l := plainLoop()
	for _, h := range []impl.Hold{{}, {On: true, Sum: 3, Last: 2, Out: 1}} {
		for _, wrong := range wrongPoints() {
			for _, right := range append(rightPoints(), wrong) {
				if next, ok := impl.LoopStep(l, h, wrong, right); ok || next != (impl.Hold{}) {
					t.Error(wrong, right, next, ok)
				}
				if next, ok := impl.LoopStep(l, h, right, wrong); ok || next != (impl.Hold{}) {
					t.Error(right, wrong, next, ok)
				}
			}
		}
	}
}

func TestP10StepsTold(t *testing.T) {
	most := int64(1000000000)
	for _, c := range []struct {
		name       string
		l          impl.Loop
		h          impl.Hold
		want, seen int64
		told       impl.Hold
	}{
		{"a quotient goes down", impl.Loop{P: 1, Scale: 2, Low: -9, High: 9}, impl.Hold{}, 0, 3, impl.Hold{On: true, Sum: -3, Last: -3, Out: -2}},
		{"and above 0, too", impl.Loop{P: 1, Scale: 2, Low: -9, High: 9}, impl.Hold{}, 3, 0, impl.Hold{On: true, Sum: 3, Last: 3, Out: 1}},
		{"one quotient of the sum", impl.Loop{P: 1, I: 1, D: 1, Scale: 2, Low: -9, High: 9}, impl.Hold{On: true}, 1, 0, impl.Hold{On: true, Sum: 1, Last: 1, Out: 1}},
		{"no change at first", impl.Loop{D: 1, Scale: 1, Low: -9, High: 9}, impl.Hold{}, 5, 0, impl.Hold{On: true, Sum: 5, Last: 5}},
		{"the change then", impl.Loop{D: 1, Scale: 1, Low: -9, High: 9}, impl.Hold{On: true, Last: 7}, 5, 0, impl.Hold{On: true, Sum: 5, Last: 5, Out: -2}},
		{"the sum with this one", impl.Loop{I: 1, Scale: 1, Low: -9, High: 9}, impl.Hold{On: true, Sum: 3}, 4, 0, impl.Hold{On: true, Sum: 7, Last: 4, Out: 7}},
		{"held at High, Back 0", impl.Loop{I: 1, Scale: 1, Low: -9, High: 9}, impl.Hold{On: true, Sum: 20}, 4, 0, impl.Hold{On: true, Sum: 24, Last: 4, Out: 9}},
		{"held at High, Back 10", impl.Loop{I: 1, Scale: 1, Low: -9, High: 9, Back: 10}, impl.Hold{On: true, Sum: 20}, 4, 0, impl.Hold{On: true, Sum: 9, Last: 4, Out: 9}},
		{"held at High, Back 5", impl.Loop{I: 1, Scale: 1, Low: -9, High: 9, Back: 5}, impl.Hold{On: true, Sum: 20}, 4, 0, impl.Hold{On: true, Sum: 16, Last: 4, Out: 9}},
		{"held at Low, Back 0", impl.Loop{I: 1, Scale: 1, Low: -9, High: 9}, impl.Hold{On: true, Sum: -20}, 0, 4, impl.Hold{On: true, Sum: -24, Last: -4, Out: -9}},
		{"held at Low, Back 10", impl.Loop{I: 1, Scale: 1, Low: -9, High: 9, Back: 10}, impl.Hold{On: true, Sum: -20}, 0, 4, impl.Hold{On: true, Sum: -9, Last: -4, Out: -9}},
		{"held at Low, Back 5", impl.Loop{I: 1, Scale: 1, Low: -9, High: 9, Back: 5}, impl.Hold{On: true, Sum: -20}, 0, 4, impl.Hold{On: true, Sum: -17, Last: -4, Out: -9}},
		{"what is given back goes down", impl.Loop{P: 1, Scale: 1, Low: -9, High: 9, Back: 1}, impl.Hold{}, 10, 0, impl.Hold{On: true, Sum: 9, Last: 10, Out: 9}},
		{"and not up at the other end", impl.Loop{P: 1, Scale: 1, Low: -9, High: 9, Back: 1}, impl.Hold{}, 0, 10, impl.Hold{On: true, Sum: -10, Last: -10, Out: -9}},
		{"a Sum comes to its most", impl.Loop{Scale: 1}, impl.Hold{On: true, Sum: most - 1}, 1, 0, impl.Hold{On: true, Sum: most, Last: 1}},
		{"and stays there", impl.Loop{Scale: 1}, impl.Hold{On: true, Sum: most}, 1000000, -1000000, impl.Hold{On: true, Sum: most, Last: 2000000}},
		{"a Sum comes to its least", impl.Loop{Scale: 1}, impl.Hold{On: true, Sum: 1 - most}, 0, 1, impl.Hold{On: true, Sum: -most, Last: -1}},
		{"and stays at it", impl.Loop{Scale: 1}, impl.Hold{On: true, Sum: -most}, -1000000, 1000000, impl.Hold{On: true, Sum: -most, Last: -2000000}},
		{"the sum is bounded behind the quotient", impl.Loop{I: 1, Scale: 1, High: 1000000}, impl.Hold{On: true, Sum: most}, 5, 0, impl.Hold{On: true, Sum: most, Last: 5, Out: 1000000}},
		{"what is given back is bounded", impl.Loop{I: 1000, Scale: 1, Back: 10}, impl.Hold{On: true, Sum: most}, 0, 0, impl.Hold{On: true, Sum: -most}},
		{"and at the other end", impl.Loop{I: 1000, Scale: 1, Back: 10}, impl.Hold{On: true, Sum: -most}, 0, 0, impl.Hold{On: true, Sum: most}},
		{"Low is High", impl.Loop{P: 1, Scale: 1, Low: 4, High: 4, Back: 10}, impl.Hold{}, 6, 0, impl.Hold{On: true, Sum: 4, Last: 6, Out: 4}},
		{"the free sum counts, not the bounded one", impl.Loop{I: 1000, Scale: 1000, Low: -1000000, High: 1000000, Back: 10}, impl.Hold{On: true, Sum: most}, 7, 0, impl.Hold{On: true, Sum: 1000000, Last: 7, Out: 1000000}},
	} {
		if next, ok := impl.LoopStep(c.l, c.h, c.want, c.seen); !ok || next != c.told {
			t.Error(c.name, next, ok, c.told)
		}
	}
}

// TestP10HeldSumDoesNotGrow: with Back 10 and I as great as Scale the sum comes back as soon as what is seen does.
func TestP10HeldSumDoesNotGrow(t *testing.T) {
	l := impl.Loop{I: 10, Scale: 10, Low: 0, High: 100, Back: 10}
	free := l
	free.Back = 0
	var held, grown impl.Hold
	for range 500 {
		held, grown = stepSame(t, l, held, 60, 0), stepSame(t, free, grown, 60, 0)
		if held.Sum > 100 {
			t.Fatal("the held sum grows", held)
		}
	}
	if grown.Sum != 500*60 {
		t.Error("without Back it grows", grown)
	}
	held, grown = stepSame(t, l, held, 0, 30), stepSame(t, free, grown, 0, 30)
	if held.Out != 70 || grown.Out != 100 {
		t.Error(held, grown)
	}
}

func wantOuts(l impl.Loop, h impl.Hold, wants []int64, seens []int64) ([]int64, impl.Hold) {
	var outs []int64
	for i := range wants {
		h = wantLoop(l, h, wants[i], seens[i])
		outs = append(outs, h.Out)
	}
	return outs, h
}

func runSame(t *testing.T, l impl.Loop, h impl.Hold, wants []int64, seens []int64) impl.Hold {
	t.Helper()
	keptWants, keptSeens := slices.Clone(wants), slices.Clone(seens)
	outs, at, ok := impl.LoopRun(l, h, wants, seens)
	if told, hold := wantOuts(l, h, wants, seens); !ok || !slices.Equal(outs, told) || at != hold {
		t.Fatal(l, h, wants, seens, outs, at, ok, told, hold)
	}
	for i, out := range outs {
		if out < l.Low || out > l.High {
			t.Fatal("an Out beyond its bounds", l, i, out)
		}
		outs[i] = 77
	}
	if !slices.Equal(wants, keptWants) || !slices.Equal(seens, keptSeens) {
		t.Fatal("an argument is changed")
	}
	return at
}

func TestP10Runs(t *testing.T) {
	for i, l := range rightLoops() {
		seed := int64(2 * i)
		for _, h := range rightHolds(l)[:7] {
			for _, n := range []int{0, 1, 2, 50} {
				runSame(t, l, h, someNumbers(seed, n, -1000000, 1000000), someNumbers(seed+1, n, -1000000, 1000000))
			}
			wants, seens := someNumbers(seed, 60, -90, 90), someNumbers(seed+1, 60, -90, 90)
			half := runSame(t, l, h, wants[:25], seens[:25])
			if runSame(t, l, half, wants[25:], seens[25:]) != runSame(t, l, h, wants, seens) {
				t.Fatal("two pieces are not one run", l, h)
			}
		}
	}
	l, ends := plainLoop(), slices.Repeat([]int64{1000000, -1000000}, 500)
	runSame(t, l, impl.Hold{}, ends, someNumbers(5, 1000, -1000000, 1000000))
	// All one way for so long that the sum comes to its bounds.
	far := slices.Repeat([]int64{1000000}, 1000)
	near := slices.Repeat([]int64{-1000000}, 1000)
	l.Back = 0
	if at := runSame(t, l, impl.Hold{}, far, near); at.Sum != 1000000000 {
		t.Error(at)
	}
	if at := runSame(t, l, impl.Hold{}, near, far); at.Sum != -1000000000 {
		t.Error(at)
	}
}

func runRefused(t *testing.T, l impl.Loop, h impl.Hold, wants []int64, seens []int64) {
	t.Helper()
	if outs, at, ok := impl.LoopRun(l, h, wants, seens); ok || len(outs) != 0 || at != (impl.Hold{}) {
		t.Error(l, h, len(wants), len(seens), outs, at, ok)
	}
}

func TestP10RunsRefused(t *testing.T) {
	l, on := plainLoop(), impl.Hold{On: true, Sum: 3, Last: 2, Out: 1}
	many := someNumbers(1, 1001, -9, 9)
	for _, h := range []impl.Hold{{}, on} {
		runSame(t, l, h, nil, nil)
		runSame(t, l, h, many[:1000], many[:1000])
		runRefused(t, l, h, many, many)
		for _, c := range [][2]int{{0, 1}, {1, 0}, {2, 1}, {999, 1000}, {1000, 999}, {1001, 1000}, {1000, 1001}} {
			runRefused(t, l, h, many[:c[0]], many[:c[1]])
		}
		for _, wrong := range wrongPoints() {
			for _, place := range []int{0, 1, 9} {
				bad := slices.Clone(many[:10])
				bad[place] = wrong
				runRefused(t, l, h, bad, many[:10])
				runRefused(t, l, h, many[:10], bad)
			}
		}
	}
	for _, n := range []int{0, 1, 3} {
		for _, wrong := range wrongLoops() {
			runRefused(t, wrong, impl.Hold{}, many[:n], many[:n])
		}
		for _, wrong := range wrongHolds(l) {
			runRefused(t, l, wrong, many[:n], many[:n])
		}
	}
}

func unitOf(most int64, gain int64) impl.Unit {
	return impl.Unit{Cap: most, Gain: gain}
}

func wantGiven(units []impl.Unit, fall int64) int64 {
	sum := int64(0)
	for _, u := range units {
		sum += min(u.Cap, u.Gain*fall)
	}
	return sum
}

// wantShares takes what is too much from the first one on.
func wantShares(units []impl.Unit, load int64, fall int64) []int64 {
	var shares []int64
	all := int64(0)
	for _, u := range units {
		shares = append(shares, min(u.Cap, u.Gain*fall))
		all += shares[len(shares)-1]
	}
	for i, u := range units {
		for all > load && fall > 0 && shares[i] > min(u.Cap, u.Gain*(fall-1)) {
			shares[i]--
			all--
		}
	}
	return shares
}

// shareSame asks for a load that the units bear at that fall.
func shareSame(t *testing.T, units []impl.Unit, load int64, fall int64) {
	t.Helper()
	kept := slices.Clone(units)
	if f := impl.FallFor(units, load); f != fall {
		t.Fatal("FallFor", units, load, f, fall)
	}
	shares, told := impl.ShareOut(units, load), wantShares(units, load, fall)
	if !slices.Equal(shares, told) {
		t.Fatal("ShareOut", units, load, shares, told)
	}
	sum := int64(0)
	for i, share := range shares {
		if share < 0 || share > units[i].Cap {
			t.Fatal("a share above its most", units, load, shares)
		}
		sum += share
	}
	if sum != load || len(shares) != len(units) {
		t.Fatal("the shares are not the load", units, load, shares)
	}
	if !slices.Equal(units, kept) {
		t.Fatal("the units are changed", kept, units)
	}
}

func shareRefused(t *testing.T, units []impl.Unit, load int64) {
	t.Helper()
	if f := impl.FallFor(units, load); f != -1 {
		t.Error("FallFor", units, load, f)
	}
	if shares := impl.ShareOut(units, load); len(shares) != 0 {
		t.Error("ShareOut", units, load, shares)
	}
}

func smallUnits() [][]impl.Unit {
	return [][]impl.Unit{
		nil, {}, {unitOf(0, 1)}, {unitOf(1, 1)}, {unitOf(1, 1000)}, {unitOf(100, 10)}, {unitOf(99, 10)}, {unitOf(101, 10)},
		{unitOf(0, 5), unitOf(0, 7)}, {unitOf(100, 10), unitOf(50, 5)}, {unitOf(50, 5), unitOf(100, 10)},
		{unitOf(10, 1), unitOf(10, 1), unitOf(10, 1)}, {unitOf(3, 7), unitOf(50, 2), unitOf(0, 9), unitOf(20, 3)},
		{unitOf(7, 1000), unitOf(40, 1), unitOf(1, 1)}, {unitOf(40, 1), unitOf(7, 1000)},
	}
}

func TestP10SharesAreTheLoad(t *testing.T) {
	for _, units := range smallUnits() {
		all := int64(0)
		for _, u := range units {
			all += u.Cap
		}
		fall := int64(0)
		for load := int64(0); load <= all; load++ {
			for wantGiven(units, fall) < load {
				fall++
			}
			shareSame(t, units, load, fall)
		}
		for _, load := range []int64{all + 1, all + 2, 50000000} {
			shareRefused(t, units, load)
		}
	}
}

func TestP10ManyUnits(t *testing.T) {
	for seed := range int64(40) {
		n := int(1 + seed*49/39)
		caps, gains := someNumbers(seed, n, 0, 1000000), someNumbers(seed+100, n, 1, 1000)
		var units []impl.Unit
		all := int64(0)
		for i := range caps {
			units = append(units, unitOf(caps[i], gains[i]))
			all += caps[i]
		}
		for _, load := range append(someNumbers(seed+200, 5, 0, all), 0, all, all/2) {
			fall := impl.FallFor(units, load)
			if fall < 0 || wantGiven(units, fall) < load || fall > 0 && wantGiven(units, fall-1) >= load {
				t.Fatal("not the least fall", units, load, fall)
			}
			shareSame(t, units, load, fall)
		}
		shareRefused(t, units, all+1)
	}
}

func TestP10SharesTold(t *testing.T) {
	slow := slices.Repeat([]impl.Unit{unitOf(1000000, 1)}, 50)
	shareSame(t, slow, 50000000, 1000000)
	shareSame(t, slow, 49999950, 999999)
	shareSame(t, slow, 49999951, 1000000)
	shareSame(t, slow, 1, 1)
	shareSame(t, slow, 0, 0)
	shareRefused(t, slow, 50000001)
	quick := slices.Repeat([]impl.Unit{unitOf(1000000, 1000)}, 50)
	shareSame(t, quick, 50000000, 1000)
	shareRefused(t, slow[:49], 50000000)
	shareSame(t, slow[:49], 49000000, 1000000)
	shareRefused(t, slow[:49], 49000001)
	u := []impl.Unit{unitOf(100, 10), unitOf(8, 3), unitOf(50, 5)}
	for _, c := range []struct {
		load int64
		want []int64
	}{
		{0, []int64{0, 0, 0}}, {1, []int64{0, 0, 1}}, {5, []int64{0, 0, 5}}, {6, []int64{0, 1, 5}}, {8, []int64{0, 3, 5}},
		{9, []int64{1, 3, 5}}, {18, []int64{10, 3, 5}}, {19, []int64{10, 3, 6}}, {23, []int64{10, 3, 10}},
		{53, []int64{30, 8, 15}}, {54, []int64{30, 8, 16}}, {59, []int64{31, 8, 20}}, {158, []int64{100, 8, 50}},
	} {
		if shares := impl.ShareOut(u, c.load); !slices.Equal(shares, c.want) {
			t.Error(c.load, shares, c.want)
		}
	}
}

func TestP10SharesRefused(t *testing.T) {
	good := slices.Repeat([]impl.Unit{unitOf(1000000, 1000)}, 51)
	for _, load := range []int64{0, 1, 1000} {
		shareRefused(t, good, load)
		for _, wrong := range []impl.Unit{
			{}, unitOf(-1, 1), unitOf(1000001, 1), unitOf(5, 0), unitOf(5, 1001), unitOf(5, -1), unitOf(0, 0),
			unitOf(math.MaxInt64, 1), unitOf(math.MinInt64, 1), unitOf(1, math.MaxInt64), unitOf(1, math.MinInt64),
		} {
			for place := range 3 {
				units := slices.Clone(good[:3])
				units[place] = wrong
				shareRefused(t, units, load)
			}
			shareRefused(t, []impl.Unit{wrong}, load)
		}
	}
	for _, load := range []int64{-1, 50000001, math.MinInt64, math.MaxInt64} {
		shareRefused(t, good[:50], load)
		shareRefused(t, nil, load)
	}
}
