package tests

import (
	"math"
	"slices"
	"testing"

	"loop.example/g00062/impl"
)

func TestP16Constants(t *testing.T) {
	if impl.MaxZones != 8 || impl.MaxRelays != 20 {
		t.Error("a limit")
	}
}

func zone(re float64, im float64, radius float64, time int64) impl.Zone {
	return impl.Zone{Centre: pair(re, im), Radius: radius, Time: time}
}

// wrongZones would see everything, were they right.
func wrongZones() []impl.Zone {
	list := []impl.Zone{
		zone(0, 0, -1, 0), zone(0, 0, -5e-324, 0), zone(0, 0, -1e200, 0), zone(0, 0, 1e200, -1), zone(0, 0, 1e200, 100001),
		zone(0, 0, 1e200, math.MinInt64), zone(0, 0, 1e200, math.MaxInt64),
	}
	for _, x := range unknowns() {
		list = append(list, zone(x, 0, 1e200, 0), zone(0, x, 1e200, 0), zone(0, 0, x, 0))
	}
	return list
}

// wantSees wants a right Zone.
func wantSees(z impl.Zone, volt impl.Pair, amp impl.Pair) bool {
	away := wantNorm(wantSub(wantDiv(volt, amp), z.Centre))
	round := oneOp(z.Radius, '*', z.Radius)
	return away < round || away == round
}

func TestP16SeesTold(t *testing.T) {
	one := pair(1, 0)
	for _, c := range []struct {
		name string
		z    impl.Zone
		volt impl.Pair
		amp  impl.Pair
		sees bool
	}{
		{"in the midst", zone(3, 4, 1, 0), pair(3, 4), one, true},
		{"just on the circle", zone(3, 4, 5, 0), pair(0, 0), one, true},
		{"just on the circle, above", zone(0, 5, 5, 0), pair(0, 10), one, true},
		{"just beyond the circle", zone(0, 5, 5, 0), pair(0, math.Nextafter(10, 11)), one, false},
		{"just within the circle", zone(0, 5, 5, 0), pair(0, math.Nextafter(10, 9)), one, true},
		{"the quotient counts", zone(0, 5, 5, 0), pair(0, 20), pair(2, 0), true},
		{"the quotient counts, and it is beyond", zone(0, 5, 5, 0), pair(0, 5), pair(0.25, 0), false},
		{"a turned current", zone(0, 5, 5, 0), pair(-10, 0), pair(0, 1), true},
		{"a turned current, behind", zone(0, 5, 5, 0), pair(10, 0), pair(0, 1), false},
		{"no current", zone(0, 0, 1e200, 0), pair(1, 0), pair(0, 0), false},
		{"no current and no voltage", zone(0, 0, 1e200, 0), pair(0, 0), pair(0, 0), false},
		{"no voltage, around the origin", zone(0, 0, 1, 0), pair(0, 0), one, true},
		{"no voltage, away from the origin", zone(2, 0, 1, 0), pair(0, 0), one, false},
		{"a radius of 0", zone(3, 4, 0, 0), pair(3, 4), one, true},
		{"a radius of 0, beside", zone(3, 4, 0, 0), pair(3, 4.5), one, false},
		{"a radius of -0", zone(3, 4, minusZero(), 0), pair(3, 4), one, true},
		{"the greatest time", zone(0, 0, 1, 100000), pair(0, 0), one, true},
		{"a radius whose square is infinite", zone(0, 0, 1e200, 0), pair(1e300, 0), one, true},
		{"a voltage that is infinite", zone(0, 0, 5, 0), pair(math.Inf(1), 0), one, false},
		{"a voltage that is a NaN", zone(0, 0, 1e200, 0), pair(math.NaN(), 0), one, false},
		{"a current that is a NaN", zone(0, 0, 1e200, 0), one, pair(0, math.NaN()), false},
		{"a current that is infinite", zone(0, 0, 1e200, 0), one, pair(math.Inf(1), 0), false},
	} {
		if sees := impl.Sees(c.z, c.volt, c.amp); sees != c.sees {
			t.Error(c.name, sees)
		}
		if sees := wantSees(c.z, c.volt, c.amp); sees != c.sees {
			t.Error(c.name, "the test itself", sees)
		}
	}
}

func TestP16WrongZonesSeeNothing(t *testing.T) {
	for _, z := range wrongZones() {
		for _, volt := range append(oddPairs(), z.Centre) {
			if impl.Sees(z, volt, pair(1, 0)) {
				t.Error(z, volt)
			}
		}
	}
}

func TestP16SeesOddPairs(t *testing.T) {
	zones := []impl.Zone{
		zone(0, 0, 0, 0), zone(1, -1.5, 2, 7), zone(0, 0, 1e200, 100000), zone(mostFloat, 0, mostFloat, 1),
		zone(-1e200, 1e200, 1e154, 1), zone(0, 5e-324, 5e-324, 0), zone(minusZero(), 0, minusZero(), 3),
	}
	seen := 0
	for _, z := range zones {
		for _, volt := range oddPairs() {
			for _, amp := range oddPairs() {
				sees := impl.Sees(z, volt, amp)
				if sees != wantSees(z, volt, amp) {
					t.Fatal(z, volt, amp, sees)
				}
				if sees {
					seen++
				}
			}
		}
	}
	if seen == 0 {
		t.Error("nothing is seen")
	}
}

// Each radius is nearly as far as the quotient lies away, so each rounding counts.
func TestP16SeesNearTheCircle(t *testing.T) {
	volts, amps, centres := somePairs(1, 3000), somePairs(5, 3000), somePairs(9, 3000)
	count := map[bool]int{}
	for i, volt := range volts {
		far := math.Sqrt(wantNorm(wantSub(wantDiv(volt, amps[i]), centres[i])))
		radius := far
		for range 3 {
			radius = math.Nextafter(radius, 0)
		}
		for range 7 {
			z := impl.Zone{Centre: centres[i], Radius: radius}
			sees := impl.Sees(z, volt, amps[i])
			if sees != wantSees(z, volt, amps[i]) {
				t.Fatal(z, volt, amps[i], sees)
			}
			count[sees]++
			radius = math.Nextafter(radius, math.Inf(1))
		}
	}
	if count[true] < 1000 || count[false] < 1000 {
		t.Error("the radii tell too little", count)
	}
}

func TestP16AWiderZoneSeesMore(t *testing.T) {
	radii := []float64{0, 5e-324, 1e-170, 0.1, 0.5, 1, 1.5, 2, 10, 1000, 1e6, 1e154, 1e200, mostFloat}
	volts := append(oddPairs(), somePairs(3, 300)...)
	amps := []impl.Pair{pair(1, 0), pair(0.3, -0.7), pair(1e-170, 0), pair(0, 0), pair(1e150, 1)}
	for _, centre := range []impl.Pair{{}, pair(1, -1.5), pair(-1e200, 0), pair(0, 1e-170), pair(500, 300)} {
		for _, volt := range volts {
			for _, amp := range amps {
				sees := false
				for _, radius := range radii {
					now := impl.Sees(impl.Zone{Centre: centre, Radius: radius}, volt, amp)
					if sees && !now {
						t.Fatal(centre, radius, volt, amp)
					}
					sees = now
				}
			}
		}
	}
}

// Of whole numbers nothing is rounded, so a circle around another one is told without a rest.
func TestP16AZoneAroundAnotherSeesMore(t *testing.T) {
	around := 0
	for seed := range int64(400) {
		n := someNumbers(seed, 6, -6, 6)
		small := zone(float64(n[0]), float64(n[1]), math.Abs(float64(n[2])), 0)
		great := zone(float64(n[3]), float64(n[4]), math.Abs(float64(n[5]))*2, 9)
		wider := great.Radius - small.Radius
		apart := (n[0]-n[3])*(n[0]-n[3]) + (n[1]-n[4])*(n[1]-n[4])
		if wider < 0 || wider*wider < float64(apart) {
			continue
		}
		around++
		for re := -20; re <= 20; re++ {
			for im := -20; im <= 20; im++ {
				volt := pair(float64(re), float64(im))
				if impl.Sees(small, volt, pair(1, 0)) && !impl.Sees(great, volt, pair(1, 0)) {
					t.Fatal(small, great, volt)
				}
			}
		}
	}
	if around < 20 {
		t.Error("the zones tell too little", around)
	}
}

// wantDistance wants right zones.
func wantDistance(zones []impl.Zone, volt impl.Pair, amp impl.Pair) int64 {
	times := []int64{}
	for _, z := range zones {
		if wantSees(z, volt, amp) {
			times = append(times, z.Time)
		}
	}
	if len(times) == 0 {
		return -1
	}
	return slices.Min(times)
}

func TestP16DistanceTold(t *testing.T) {
	one := pair(1, 0)
	near, mid, far := zone(0, 2, 2, 0), zone(0, 4, 4, 40), zone(0, 8, 8, 100)
	for _, c := range []struct {
		name  string
		zones []impl.Zone
		volt  impl.Pair
		time  int64
	}{
		{"none", nil, pair(0, 1), -1},
		{"none that is there", []impl.Zone{}, pair(0, 1), -1},
		{"all see", []impl.Zone{near, mid, far}, pair(0, 3), 0},
		{"all see, the other way round", []impl.Zone{far, mid, near}, pair(0, 3), 0},
		{"two see", []impl.Zone{near, far, mid}, pair(0, 7), 40},
		{"one sees", []impl.Zone{near, mid, far}, pair(0, 15), 100},
		{"none sees", []impl.Zone{near, mid, far}, pair(0, 17), -1},
		{"equal times", []impl.Zone{zone(0, 2, 2, 7), zone(0, 8, 8, 7)}, pair(0, 3), 7},
		{"equal times, one sees", []impl.Zone{zone(0, 2, 2, 7), zone(0, 8, 8, 7)}, pair(0, 9), 7},
		{"the greatest time", []impl.Zone{zone(0, 2, 2, 100000)}, pair(0, 3), 100000},
		{"eight", append(slices.Repeat([]impl.Zone{far}, 7), mid), pair(0, 3), 40},
		{"nine", append(slices.Repeat([]impl.Zone{far}, 8), mid), pair(0, 3), -1},
		{"nine alike", slices.Repeat([]impl.Zone{far}, 9), pair(0, 3), -1},
	} {
		kept := slices.Clone(c.zones)
		if time := impl.Distance(c.zones, c.volt, one); time != c.time {
			t.Error(c.name, time)
		}
		if !slices.Equal(c.zones, kept) {
			t.Error(c.name, "the zones are changed")
		}
		if time := impl.Distance(c.zones, c.volt, pair(0, 0)); time != -1 {
			t.Error(c.name, "without a current", time)
		}
	}
}

func TestP16OneWrongZone(t *testing.T) {
	sees := zone(0, 2, 2, 3)
	for _, wrong := range wrongZones() {
		for n := range 8 {
			for place := range n + 1 {
				zones := slices.Insert(slices.Repeat([]impl.Zone{sees}, n), place, wrong)
				if time := impl.Distance(zones, pair(0, 1), pair(1, 0)); time != -1 {
					t.Fatal(wrong, n, place, time)
				}
			}
		}
	}
}

func TestP16SomeDistances(t *testing.T) {
	found := map[bool]int{}
	for seed := range int64(3000) {
		n := someNumbers(seed, 4*8+5, 0, 20)
		zones := []impl.Zone{}
		for i := range n[36] % 9 {
			d := n[4*i : 4*i+4]
			zones = append(zones, zone(float64(d[0]-10), float64(d[1]-10), float64(d[2])/3, d[3]%6))
		}
		volt, amp := pair(float64(n[32]-10), float64(n[33]-10)), pair(float64(n[34]-10), float64(n[35]-10)/7)
		time := impl.Distance(zones, volt, amp)
		if time != wantDistance(zones, volt, amp) {
			t.Fatal(zones, volt, amp, time)
		}
		slices.Reverse(zones)
		if again := impl.Distance(zones, volt, amp); again != time {
			t.Fatal("the order counts", zones, volt, amp, again, time)
		}
		found[time < 0]++
	}
	if found[true] < 300 || found[false] < 300 {
		t.Error("the zones tell too little", found)
	}
}

func wantDiffers(in impl.Pair, out impl.Pair, least float64, slope float64) bool {
	return wantAbove(wantNorm(wantSub(in, out)), wantNorm(wantAdd(in, out)), least, slope)
}

func wantAbove(apart float64, through float64, least float64, slope float64) bool {
	return apart > oneOp(oneOp(least, '*', least), '+', oneOp(oneOp(slope, '*', slope), '*', through))
}

func TestP16DiffersTold(t *testing.T) {
	more := func(x float64) float64 { return math.Nextafter(x, math.Inf(1)) }
	for _, c := range []struct {
		name    string
		in      impl.Pair
		out     impl.Pair
		least   float64
		slope   float64
		differs bool
	}{
		{"what goes in comes out", pair(5, 3), pair(5, 3), 0, 0, false},
		{"nothing", pair(0, 0), pair(0, 0), 0, 0, false},
		{"just at the least", pair(3, 0), pair(1, 0), 2, 0, false},
		{"just above the least", pair(more(3), 0), pair(1, 0), 2, 0, true},
		{"just at the slope", pair(3, 0), pair(1, 0), 0, 0.5, false},
		{"just above the slope", pair(3, 0), pair(1, 0), 0, math.Nextafter(0.5, 0), true},
		{"just at both", pair(0, 6.5), pair(0, 1.5), 3, 0.5, false},
		{"just above both", pair(0, more(6.5)), pair(0, 1.5), 3, 0.5, true},
		{"the other way", pair(1, 0), pair(3, 0), 1, 0.1, true},
		{"it comes out turned", pair(1, 0), pair(-1, 0), 1, 100, true},
		{"it comes out turned, the least is enough", pair(1, 0), pair(-1, 0), 2, 0, false},
		{"a least below 0", pair(3, 0), pair(1, 0), -2, 0, false},
		{"a slope below 0", pair(3, 0), pair(1, 0), 0, -0.5, false},
		{"a NaN goes in", pair(math.NaN(), 0), pair(1, 0), 0, 0, false},
		{"a NaN comes out", pair(9, 0), pair(1, math.NaN()), 0, 0, false},
		{"a least that is a NaN", pair(9, 0), pair(1, 0), math.NaN(), 0, false},
		{"a slope that is a NaN", pair(9, 0), pair(1, 0), 0, math.NaN(), false},
		{"a least that is infinite", pair(9, 0), pair(1, 0), math.Inf(-1), 0, false},
		{"a slope that is infinite", pair(9, 0), pair(1, 0), 0, math.Inf(1), false},
		{"a slope that is infinite, of nothing", pair(9, 0), pair(-9, 0), 0, math.Inf(1), false},
		{"something infinite goes in", pair(math.Inf(1), 0), pair(1, 0), 1, 0.1, false},
		{"something infinite goes in, without a slope", pair(math.Inf(1), 0), pair(1, 0), 1, 0, false},
		{"a square that is infinite", pair(1e200, 0), pair(-1e200, 0), 1, 0.1, true},
	} {
		if differs := impl.Differs(c.in, c.out, c.least, c.slope); differs != c.differs {
			t.Error(c.name, differs)
		}
		if differs := wantDiffers(c.in, c.out, c.least, c.slope); differs != c.differs {
			t.Error(c.name, "the test itself", differs)
		}
	}
}

func TestP16DiffersOddPairs(t *testing.T) {
	bounds := [][2]float64{
		{0, 0}, {minusZero(), 0.3}, {-1.5, 0.1}, {0.1, -1e-170}, {1e200, 5e-324}, {math.NaN(), 0.3}, {0.1, math.NaN()},
		{math.Inf(1), 0}, {0, math.Inf(-1)},
	}
	for _, in := range oddPairs() {
		for _, out := range oddPairs() {
			apart, through := wantNorm(wantSub(in, out)), wantNorm(wantAdd(in, out))
			for _, b := range bounds {
				if differs := impl.Differs(in, out, b[0], b[1]); differs != wantAbove(apart, through, b[0], b[1]) {
					t.Fatal(in, out, b, differs)
				}
			}
		}
	}
}

// Each least is nearly the one that is just enough, so each rounding counts.
func TestP16DiffersNearTheBound(t *testing.T) {
	ins, outs := somePairs(2, 3000), somePairs(6, 3000)
	slopes := someNumbers(8, 3000, 0, 999)
	count := map[bool]int{}
	for i, in := range ins {
		slope := float64(slopes[i]) / 2777
		square := wantNorm(wantSub(in, outs[i])) - slope*slope*wantNorm(wantAdd(in, outs[i]))
		if square <= 0 {
			continue
		}
		least := math.Sqrt(square)
		for range 3 {
			least = math.Nextafter(least, 0)
		}
		for range 7 {
			differs := impl.Differs(in, outs[i], least, slope)
			if differs != wantDiffers(in, outs[i], least, slope) {
				t.Fatal(in, outs[i], least, slope, differs)
			}
			count[differs]++
			least = math.Nextafter(least, math.Inf(1))
		}
	}
	if count[true] < 1000 || count[false] < 1000 {
		t.Error("the bounds tell too little", count)
	}
}

func relay(pickup int64, dial int64) impl.Relay {
	return impl.Relay{Pickup: pickup, Dial: dial}
}

func wrongRelays() []impl.Relay {
	return []impl.Relay{
		{}, relay(0, 1), relay(-1, 1), relay(100001, 1), relay(1, 0), relay(1, -1), relay(1, 101), relay(100000, 101),
		relay(math.MinInt64, 1), relay(math.MaxInt64, 1), relay(1, math.MinInt64), relay(1, math.MaxInt64),
		relay(-100, -10), relay(1<<32+1, 1), relay(1, 1<<32+1),
	}
}

func wrongCurrents() []int64 {
	return []int64{-1, 1000001, math.MinInt64, math.MaxInt64, -1000000, 1<<32 + 500}
}

// wantDelay counts in thousandths what no quotient of floats could tell: it wants a right relay and a current.
func wantDelay(r impl.Relay, amps int64) int64 {
	if amps <= r.Pickup {
		return -1
	}
	whole, over := r.Dial*r.Pickup*1000, amps-r.Pickup
	delay := whole / over
	if delay*over != whole {
		delay++
	}
	return delay
}

func TestP16DelaysTold(t *testing.T) {
	for _, c := range []struct {
		name  string
		r     impl.Relay
		amps  int64
		delay int64
	}{
		{"even", relay(100, 10), 300, 5000},
		{"not even", relay(100, 10), 301, 4976},
		{"just one above an even one", relay(1, 1), 1000, 2},
		{"even at last", relay(1, 1), 1001, 1},
		{"less than one", relay(1, 1), 1002, 1},
		{"far above", relay(1, 1), 1000000, 1},
		{"just at the pickup", relay(100, 10), 100, -1},
		{"one more", relay(100, 10), 101, 1000000},
		{"one less", relay(100, 10), 99, -1},
		{"no current flows", relay(100, 10), 0, -1},
		{"the least relay, no current flows", relay(1, 1), 0, -1},
		{"the least relay at its pickup", relay(1, 1), 1, -1},
		{"the least relay, one more", relay(1, 1), 2, 1000},
		{"the greatest relay, one more", relay(100000, 100), 100001, 10000000000},
		{"the greatest relay at its pickup", relay(100000, 100), 100000, -1},
		{"the greatest relay, the greatest current", relay(100000, 100), 1000000, 11112},
		{"a current that is none", relay(100, 10), 1000001, -1},
		{"a current below 0", relay(100, 10), -1, -1},
		{"a pickup of 0", relay(0, 10), 300, -1},
		{"a pickup too great", relay(100001, 10), 300000, -1},
		{"a dial of 0", relay(100, 0), 300, -1},
		{"a dial too great", relay(100, 101), 300, -1},
		{"a dial just as great as it may be", relay(100, 100), 300, 50000},
	} {
		if delay := impl.DelayOf(c.r, c.amps); delay != c.delay {
			t.Error(c.name, delay)
		}
	}
	for _, r := range wrongRelays() {
		for _, amps := range []int64{0, 1, 2, 100, 100001, 1000000, -1, 1000001, math.MaxInt64, math.MinInt64} {
			if delay := impl.DelayOf(r, amps); delay != -1 {
				t.Error(r, amps, delay)
			}
		}
	}
	for _, amps := range wrongCurrents() {
		for _, r := range []impl.Relay{relay(1, 1), relay(100000, 100), relay(300, 7)} {
			if delay := impl.DelayOf(r, amps); delay != -1 {
				t.Error(r, amps, delay)
			}
		}
	}
}

func TestP16EveryDelay(t *testing.T) {
	for _, pickup := range []int64{1, 2, 3, 7, 99, 100, 12345, 99999, 100000} {
		for _, dial := range []int64{1, 2, 3, 50, 99, 100} {
			r := relay(pickup, dial)
			last := int64(math.MaxInt64)
			for amps := pickup + 1; amps <= 1000000; amps += 1 + (amps-pickup)/40 {
				delay := impl.DelayOf(r, amps)
				if delay != wantDelay(r, amps) || delay < 1 || delay > last {
					t.Fatal(r, amps, delay)
				}
				last = delay
			}
		}
	}
}

// wantCleared wants a feeder, a place of it and a current.
func wantCleared(feeder []impl.Relay, k int64, amps int64) int64 {
	best := int64(-1)
	for i := k; i >= 0; i-- {
		delay := wantDelay(feeder[i], amps)
		if delay != -1 && (best == -1 || delay < wantDelay(feeder[best], amps)) {
			best = i
		}
	}
	return best
}

// wantSelective wants a feeder, as many currents and an apart that is right.
func wantSelective(feeder []impl.Relay, amps []int64, apart int64) int64 {
	for k := range feeder {
		own := wantDelay(feeder[k], amps[k])
		bad := own == -1
		for _, r := range feeder[:k] {
			delay := wantDelay(r, amps[k])
			bad = bad || !(delay == -1 || delay >= own+apart)
		}
		if bad {
			return int64(k)
		}
	}
	return -1
}

func TestP16ClearedTold(t *testing.T) {
	three := []impl.Relay{relay(100, 30), relay(100, 20), relay(100, 10)}
	equal := slices.Repeat([]impl.Relay{relay(100, 10)}, 4)
	for _, c := range []struct {
		name   string
		feeder []impl.Relay
		k      int64
		amps   int64
		place  int64
	}{
		{"the last section", three, 2, 300, 2},
		{"the section between", three, 1, 300, 1},
		{"the first section", three, 0, 300, 0},
		{"k is -1", three, -1, 300, -1},
		{"k is one more than the last place", three, 3, 300, -1},
		{"the greatest k", three, math.MaxInt64, 300, -1},
		{"the least k", three, math.MinInt64, 300, -1},
		{"equal delays, the last section", equal, 3, 300, 3},
		{"equal delays, the section ahead", equal, 2, 300, 2},
		{"equal delays, the first section", equal, 0, 300, 0},
		{"equal delays ahead of a slower one", append(slices.Clone(equal), relay(100, 11)), 4, 300, 3},
		{"equal delays that are rounded", []impl.Relay{relay(1, 1), relay(2, 2)}, 1, 1000000, 1},
		{"a relay ahead is faster", []impl.Relay{relay(100, 10), relay(100, 20)}, 1, 300, 0},
		{"the nearest is not touched", []impl.Relay{relay(100, 10), relay(300, 1)}, 1, 300, 0},
		{"those ahead are not touched", []impl.Relay{relay(300, 1), relay(100, 10)}, 1, 300, 1},
		{"none is touched", three, 2, 100, -1},
		{"no current flows", three, 2, 0, -1},
		{"one more than the pickup", three, 2, 101, 2},
		{"the greatest current", three, 2, 1000000, 2},
		{"a current too great", three, 2, 1000001, -1},
		{"a current below 0", three, 2, -1, -1},
		{"none", nil, 0, 300, -1},
		{"none, and k is -1", nil, -1, 300, -1},
		{"twenty", slices.Repeat(equal, 5), 19, 300, 19},
		{"twenty-one", append(slices.Repeat(equal, 5), relay(100, 10)), 19, 300, -1},
		{"twenty-one, at the first", append(slices.Repeat(equal, 5), relay(100, 10)), 0, 300, -1},
	} {
		kept := slices.Clone(c.feeder)
		if place := impl.Cleared(c.feeder, c.k, c.amps); place != c.place {
			t.Error(c.name, place)
		}
		if !slices.Equal(c.feeder, kept) {
			t.Error(c.name, "the feeder is changed")
		}
	}
	for _, amps := range wrongCurrents() {
		if place := impl.Cleared(three, 2, amps); place != -1 {
			t.Error(amps, place)
		}
	}
}

func TestP16SelectiveTold(t *testing.T) {
	two := []impl.Relay{relay(100, 10), relay(100, 5)}
	three := []impl.Relay{relay(100, 30), relay(100, 20), relay(100, 10)}
	both := []int64{300, 300}
	for _, c := range []struct {
		name   string
		feeder []impl.Relay
		amps   []int64
		apart  int64
		place  int64
	}{
		{"far apart", two, both, 2000, -1},
		{"just apart", two, both, 2500, -1},
		{"one less than apart", two, both, 2501, 1},
		{"apart is 0", two, both, 0, -1},
		{"apart is 0, equal delays", slices.Repeat([]impl.Relay{relay(100, 10)}, 2), both, 0, -1},
		{"apart is 1, equal delays", slices.Repeat([]impl.Relay{relay(100, 10)}, 2), both, 1, 1},
		{"apart is the greatest", two, both, 1000000, 1},
		{"apart is the greatest, and it is", []impl.Relay{relay(100000, 100), relay(1, 1)}, []int64{1000000, 100001}, 1000000, -1},
		{"apart is too great", two, both, 1000001, -2},
		{"apart is -1", two, both, -1, -2},
		{"apart is the greatest number", two, both, math.MaxInt64, -2},
		{"apart is the least number", two, both, math.MinInt64, -2},
		{"the first is not touched", two, []int64{100, 300}, 0, 0},
		{"the second is not touched", two, []int64{300, 100}, 0, 1},
		{"those ahead are not touched", []impl.Relay{relay(300, 1), relay(100, 10)}, []int64{400, 300}, 1000000, -1},
		{"the one between is too near", three, []int64{300, 300, 300}, 5001, 1},
		{"all are just apart", three, []int64{300, 300, 300}, 5000, -1},
		{"the last one is too near", three, []int64{300, 300, 1100}, 1001, 2},
		{"the first ahead counts, too", []impl.Relay{relay(100, 10), relay(400, 1), relay(100, 10)}, []int64{1000, 1000, 300}, 1, 2},
		{"one alone", three[:1], []int64{300}, 1000000, -1},
		{"one alone that is not touched", three[:1], []int64{0}, 0, 0},
		{"none", nil, nil, 0, -2},
		{"none, with a current", nil, []int64{300}, 0, -2},
		{"one current too few", two, both[:1], 0, -2},
		{"no currents", two, nil, 0, -2},
		{"one current too many", two, []int64{300, 300, 300}, 0, -2},
		{"a current too great", two, []int64{300, 1000001}, 0, -2},
		{"the greatest current", two, []int64{300, 1000000}, 0, -1},
		{"a current below 0", two, []int64{-1, 300}, 0, -2},
		{"a current below 0 behind one that does not touch", two, []int64{0, -1}, 0, -2},
	} {
		kept, keptAmps := slices.Clone(c.feeder), slices.Clone(c.amps)
		if place := impl.Selective(c.feeder, c.amps, c.apart); place != c.place {
			t.Error(c.name, place)
		}
		if !slices.Equal(c.feeder, kept) || !slices.Equal(c.amps, keptAmps) {
			t.Error(c.name, "an argument is changed")
		}
	}
}

func TestP16HowManyRelays(t *testing.T) {
	for n := range 25 {
		feeder, amps := slices.Repeat([]impl.Relay{relay(100, 10)}, n), slices.Repeat([]int64{300}, n)
		want := int64(-1)
		if n == 0 || n > 20 {
			want = -2
		}
		if place := impl.Selective(feeder, amps, 0); place != want {
			t.Error(n, place)
		}
		for k := int64(-2); k < 27; k++ {
			want := int64(-1)
			if n <= 20 && 0 <= k && k < int64(n) {
				want = k
			}
			if place := impl.Cleared(feeder, k, 300); place != want {
				t.Error(n, k, place)
			}
		}
	}
}

func TestP16OneWrongRelay(t *testing.T) {
	for _, wrong := range wrongRelays() {
		for n := range 5 {
			for place := range n + 1 {
				feeder := slices.Insert(slices.Repeat([]impl.Relay{relay(100, 10)}, n), place, wrong)
				for k := range feeder {
					if got := impl.Cleared(feeder, int64(k), 300); got != -1 {
						t.Fatal(feeder, k, got)
					}
				}
				if got := impl.Selective(feeder, slices.Repeat([]int64{300}, n+1), 0); got != -2 {
					t.Fatal(feeder, got)
				}
			}
		}
	}
	for _, wrong := range wrongCurrents() {
		for place := range 3 {
			amps := []int64{300, 300, 300}
			amps[place] = wrong
			if got := impl.Selective(slices.Repeat([]impl.Relay{relay(100, 10)}, 3), amps, 0); got != -2 {
				t.Error(amps, got)
			}
		}
	}
}

// someFeeder falls towards its end, but for what a die changes of it.
func someFeeder(seed int64, n int) ([]impl.Relay, []int64) {
	dice := someNumbers(seed, 4*n, 0, 99)
	feeder, amps := make([]impl.Relay, n), make([]int64, n)
	for i := range feeder {
		d := dice[4*i : 4*i+4]
		feeder[i] = relay(int64(n-i)*10+d[0]%3, int64(n-i)*4+d[1]%4)
		amps[i] = int64(n-i)*15 + d[2]
		if d[3] < 3 {
			feeder[i] = relay(1+d[0], 1+d[1])
		}
	}
	return feeder, amps
}

func TestP16TheNearestRelayClears(t *testing.T) {
	found := map[bool]int{}
	for seed := range int64(6000) {
		feeder, amps := someFeeder(seed, 1+int(seed%20))
		for _, apart := range []int64{0, 1, 2, 30, 400} {
			place := impl.Selective(feeder, amps, apart)
			if place != wantSelective(feeder, amps, apart) {
				t.Fatal(feeder, amps, apart, place)
			}
			found[place == -1]++
			for k := range feeder {
				cleared := impl.Cleared(feeder, int64(k), amps[k])
				if cleared != wantCleared(feeder, int64(k), amps[k]) {
					t.Fatal(feeder, k, amps[k], cleared)
				}
				if (place == -1 || int64(k) < place) && cleared != int64(k) {
					t.Fatal("the nearest does not clear", feeder, k, amps[k], cleared)
				}
			}
		}
	}
	if found[true] < 1000 || found[false] < 1000 {
		t.Error("the feeders tell too little", found)
	}
}

// Every feeder of three of some relays, with every row of some currents.
func TestP16EverySmallFeeder(t *testing.T) {
	kinds := []impl.Relay{relay(1, 1), relay(2, 1), relay(1, 2), relay(3, 2), relay(2, 3)}
	flows := []int64{0, 1, 2, 3, 5, 1000}
	allSays(3, 5, func(row []int64) {
		feeder := []impl.Relay{kinds[row[0]], kinds[row[1]], kinds[row[2]]}
		allSays(3, 6, func(which []int64) {
			amps := []int64{flows[which[0]], flows[which[1]], flows[which[2]]}
			for _, apart := range []int64{0, 1, 2, 500, 1000} {
				if place := impl.Selective(feeder, amps, apart); place != wantSelective(feeder, amps, apart) {
					t.Fatal(feeder, amps, apart, place)
				}
			}
		})
		for k := range int64(3) {
			for _, amps := range flows {
				if place := impl.Cleared(feeder, k, amps); place != wantCleared(feeder, k, amps) {
					t.Fatal(feeder, k, amps, place)
				}
			}
		}
	})
}
