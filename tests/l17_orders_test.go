package tests

import (
	"math"
	"slices"
	"testing"

	"loop.example/g00062/impl"
)

func TestP17Constants(t *testing.T) {
	if impl.MaxOrders != 50 || impl.MaxLocks != 200 || impl.DriveTime != 20 || impl.MaxCycle != 1000000000000 {
		t.Error("a limit")
	}
}

// ordersOf takes numbers two by two: a Level and a Want.
func ordersOf(numbers ...int64) []impl.Order {
	list := []impl.Order{}
	for i := 0; i < len(numbers); i += 2 {
		list = append(list, impl.Order{Level: numbers[i], Want: numbers[i+1]})
	}
	return list
}

func sameOrders(n int, level int64, want int64) []impl.Order {
	return slices.Repeat([]impl.Order{{Level: level, Want: want}}, n)
}

// wantDecide goes down the levels until one has something to say.
func wantDecide(list []impl.Order) int64 {
	if len(list) > 50 {
		return 0
	}
	for level := int64(1); level <= 9; level++ {
		if slices.Contains(list, impl.Order{Level: level, Want: -1}) {
			return -1
		}
		if slices.Contains(list, impl.Order{Level: level, Want: 1}) {
			return 1
		}
	}
	return 0
}

func decides(t *testing.T, list []impl.Order) {
	t.Helper()
	kept := slices.Clone(list)
	if got, want := impl.Decide(list), wantDecide(list); got != want {
		t.Error(list, got, want)
	}
	if !slices.Equal(kept, list) {
		t.Error("written into", kept, list)
	}
}

func TestP17DecideTold(t *testing.T) {
	for _, c := range []struct {
		list []impl.Order
		want int64
	}{
		{nil, 0},
		{ordersOf(), 0},
		{ordersOf(1, 1), 1}, {ordersOf(1, -1), -1}, {ordersOf(9, 1), 1}, {ordersOf(9, -1), -1},
		{ordersOf(0, 1), 0}, {ordersOf(10, 1), 0}, {ordersOf(0, -1), 0}, {ordersOf(10, -1), 0}, {ordersOf(-1, 1), 0},
		{ordersOf(5, -2), 0}, {ordersOf(5, 0), 0}, {ordersOf(5, 2), 0},
		{ordersOf(math.MinInt64, 1, math.MaxInt64, 1, 5, math.MinInt64, 5, math.MaxInt64), 0},
		{ordersOf(1, 1, 9, -1), 1}, {ordersOf(9, -1, 1, 1), 1}, {ordersOf(9, 1, 1, -1), -1}, {ordersOf(2, 1, 3, -1, 4, -1), 1},
		{ordersOf(1, 0, 2, 1), 1}, {ordersOf(1, 2, 2, 1), 1}, {ordersOf(1, -2, 2, -1), -1}, {ordersOf(0, -1, 2, 1), 1}, {ordersOf(2, 1, 0, -1), 1},
		{ordersOf(3, 1, 3, -1), -1}, {ordersOf(3, -1, 3, 1), -1}, {ordersOf(3, 1, 3, 1), 1}, {ordersOf(3, -1, 3, 1, 3, 1, 4, 1), -1},
		{ordersOf(3, 1, 3, -1, 2, 1), 1},
		{sameOrders(50, 1, 1), 1}, {sameOrders(51, 1, 1), 0}, {sameOrders(51, 1, -1), 0}, {sameOrders(51, 0, 0), 0}, {sameOrders(1000, 9, 1), 0},
		{append(sameOrders(49, 2, 1), ordersOf(1, -1)...), -1}, {append(sameOrders(50, 2, 1), ordersOf(1, -1)...), 0},
	} {
		if got := impl.Decide(c.list); got != c.want {
			t.Error(c.list, got, c.want)
		}
	}
}

// TestP17EveryDecision goes through all rows of up to three of these orders.
func TestP17EveryDecision(t *testing.T) {
	kinds := []impl.Order{}
	for _, level := range []int64{0, 1, 2, 9, 10} {
		for want := int64(-2); want <= 2; want++ {
			kinds = append(kinds, impl.Order{Level: level, Want: want})
		}
	}
	for n := range 4 {
		allSays(n, int64(len(kinds)), func(says []int64) {
			list := []impl.Order{}
			for _, s := range says {
				list = append(list, kinds[s])
			}
			decides(t, list)
		})
	}
}

func someOrders(seed int64, n int) []impl.Order {
	levels, wants := someNumbers(seed, n, -1, 11), someNumbers(seed+1, n, -2, 2)
	list := make([]impl.Order, n)
	for i := range list {
		list[i] = impl.Order{Level: levels[i], Want: wants[i]}
	}
	return list
}

func TestP17DecideDoesNotAskForAnOrder(t *testing.T) {
	for seed := range int64(300) {
		list := someOrders(seed, int(seed%53))
		decides(t, list)
		first := impl.Decide(list)
		for turn := range 5 {
			turned := append(slices.Clone(list[min(turn, len(list)):]), list[:min(turn, len(list))]...)
			slices.Reverse(turned)
			if got := impl.Decide(turned); got != first {
				t.Error(turned, got, first)
			}
		}
	}
}

func drive(pos int64, want int64, timer int64, fault bool) impl.Drive {
	return impl.Drive{Pos: pos, Want: want, Timer: timer, Fault: fault}
}

func wantDriveOk(d impl.Drive) bool {
	if d.Pos < 0 || d.Pos > 100 || d.Timer < 0 || d.Timer > 20 {
		return false
	}
	return d.Want == 1 || d.Want == -1 || d.Want == 0 && d.Timer == 0
}

func wantDrive(d impl.Drive, want int64, speed int64, jam bool) (impl.Drive, bool) {
	if !wantDriveOk(d) || want < -1 || want > 1 || speed < 1 || speed > 100 {
		return impl.Drive{}, false
	}
	if want != 0 && want != d.Want {
		d = drive(d.Pos, want, 0, false)
	}
	if d.Want == 0 {
		return d, true
	}
	end := []int64{0, 0, 100}[d.Want+1]
	for n := int64(0); n < speed && !jam && d.Pos != end; n++ {
		d.Pos += d.Want
	}
	if d.Pos == end {
		return drive(end, 0, 0, d.Fault), true
	}
	if d.Timer < 20 {
		d.Timer++
	}
	if d.Timer == 20 {
		d.Fault = true
	}
	return d, true
}

func drives(t *testing.T, d impl.Drive, want int64, speed int64, jam bool) (impl.Drive, bool) {
	t.Helper()
	got, ok := impl.DriveStep(d, want, speed, jam)
	if e, may := wantDrive(d, want, speed, jam); got != e || ok != may {
		t.Error(d, want, speed, jam, got, ok, e, may)
	}
	return got, ok
}

func TestP17DriveTold(t *testing.T) {
	for _, c := range []struct {
		name  string
		d     impl.Drive
		want  int64
		speed int64
		jam   bool
		then  impl.Drive
	}{
		{"at rest", drive(40, 0, 0, false), 0, 1, false, drive(40, 0, 0, false)},
		{"at rest with a fault", drive(40, 0, 0, true), 0, 1, false, drive(40, 0, 0, true)},
		{"begins to open", drive(40, 0, 0, true), 1, 1, false, drive(41, 1, 1, false)},
		{"begins to shut", drive(40, 0, 0, true), -1, 3, false, drive(37, -1, 1, false)},
		{"goes on", drive(41, 1, 1, false), 0, 2, false, drive(43, 1, 2, false)},
		{"the same want again", drive(41, 1, 7, false), 1, 2, false, drive(43, 1, 8, false)},
		{"the other want", drive(41, 1, 7, true), -1, 2, false, drive(39, -1, 1, false)},
		{"one short of the end", drive(97, 1, 3, false), 0, 2, false, drive(99, 1, 4, false)},
		{"just at the end", drive(98, 1, 3, false), 0, 2, false, drive(100, 0, 0, false)},
		{"not beyond the end", drive(99, 1, 3, false), 0, 2, false, drive(100, 0, 0, false)},
		{"one short of shut", drive(3, -1, 3, false), 0, 2, false, drive(1, -1, 4, false)},
		{"just shut", drive(2, -1, 3, false), 0, 2, false, drive(0, 0, 0, false)},
		{"not beyond shut", drive(1, -1, 3, false), 0, 100, false, drive(0, 0, 0, false)},
		{"the whole way at once", drive(0, 0, 0, false), 1, 100, false, drive(100, 0, 0, false)},
		{"nearly the whole way", drive(0, 0, 0, false), 1, 99, false, drive(99, 1, 1, false)},
		{"jammed", drive(50, 1, 3, false), 0, 2, true, drive(50, 1, 4, false)},
		{"jammed at its end already", drive(100, 1, 3, false), 0, 2, true, drive(100, 0, 0, false)},
		{"jammed shut already", drive(0, -1, 3, true), -1, 2, true, drive(0, 0, 0, true)},
		{"sent to where it is, jammed", drive(100, 0, 0, true), 1, 2, true, drive(100, 0, 0, false)},
		{"sent to where it is", drive(0, 0, 0, true), -1, 2, false, drive(0, 0, 0, false)},
		{"one short of its time", drive(50, 1, 18, false), 0, 2, true, drive(50, 1, 19, false)},
		{"its time is over", drive(50, 1, 19, false), 0, 2, true, drive(50, 1, 20, true)},
		{"its time is over, though it moves", drive(50, 1, 19, false), 0, 2, false, drive(52, 1, 20, true)},
		{"its time was over", drive(50, 1, 20, false), 1, 2, true, drive(50, 1, 20, true)},
		{"late, but there", drive(99, 1, 20, true), 0, 2, false, drive(100, 0, 0, true)},
		{"at the last moment", drive(99, 1, 19, false), 0, 2, false, drive(100, 0, 0, false)},
		{"a fault stays", drive(50, 1, 4, true), 1, 2, false, drive(52, 1, 5, true)},
		{"a fault that was and a new want", drive(50, 1, 20, true), -1, 2, true, drive(50, -1, 1, false)},
	} {
		if got, ok := impl.DriveStep(c.d, c.want, c.speed, c.jam); !ok || got != c.then {
			t.Error(c.name, got, ok)
		}
	}
}

func TestP17EveryDrive(t *testing.T) {
	for _, pos := range []int64{math.MinInt64, -1, 0, 1, 2, 3, 49, 50, 51, 98, 99, 100, 101, math.MaxInt64} {
		for want := int64(-2); want <= 2; want++ {
			for _, timer := range []int64{math.MinInt64, -1, 0, 1, 18, 19, 20, 21, math.MaxInt64} {
				for asked := int64(-2); asked <= 2; asked++ {
					for _, speed := range []int64{math.MinInt64, -1, 0, 1, 2, 50, 99, 100, 101, math.MaxInt64} {
						for bits := range 4 {
							drives(t, drive(pos, want, timer, bits&1 == 1), asked, speed, bits&2 == 2)
						}
					}
				}
			}
		}
	}
	for _, far := range []int64{math.MinInt64, math.MaxInt64, 1 << 32, 256} {
		drives(t, drive(50, far, 0, false), 1, 1, false)
		drives(t, drive(50, 1, 0, false), far, 1, false)
	}
}

// TestP17DriveComesToItsEnd: what is not jammed is there as soon as its speed
// allows, without a fault where that is within its time, and stays there.
func TestP17DriveComesToItsEnd(t *testing.T) {
	for pos := range int64(101) {
		for _, want := range []int64{-1, 1} {
			for _, speed := range []int64{1, 2, 4, 5, 6, 7, 33, 50, 99, 100} {
				end := 50 + 50*want
				need := max(1, (apart(pos, end)+speed-1)/speed)
				d, asked := drive(pos, 0, 0, true), want
				for n := int64(1); n <= need+3; n++ {
					d, _ = drives(t, d, asked, speed, false)
					if (d.Pos == end) != (n >= need) || (d.Want == 0) != (n >= need) || d.Fault != (n >= 20 && need > 20) {
						t.Fatal(pos, want, speed, n, need, d)
					}
					asked = 0
				}
			}
		}
	}
}

func push(speed int64, jam bool, orders ...int64) impl.Push {
	return impl.Push{Orders: ordersOf(orders...), Speed: speed, Jam: jam}
}

func wantDriveRun(d impl.Drive, list []impl.Push) ([]int64, impl.Drive, bool) {
	if !wantDriveOk(d) || len(list) > 1000 {
		return nil, impl.Drive{}, false
	}
	places := []int64{}
	for _, p := range list {
		next, ok := wantDrive(d, wantDecide(p.Orders), p.Speed, p.Jam)
		if !ok {
			return nil, impl.Drive{}, false
		}
		places, d = append(places, next.Pos), next
	}
	return places, d, true
}

func runsDrive(t *testing.T, d impl.Drive, list []impl.Push) ([]int64, impl.Drive, bool) {
	t.Helper()
	places, then, ok := impl.DriveRun(d, list)
	if wantPlaces, e, may := wantDriveRun(d, list); !slices.Equal(places, wantPlaces) || then != e || ok != may {
		t.Error(d, len(list), places, then, ok, wantPlaces, e, may)
	}
	return places, then, ok
}

func TestP17DriveRunTold(t *testing.T) {
	if places, d, ok := impl.DriveRun(drive(30, 1, 2, true), nil); !ok || len(places) != 0 || d != drive(30, 1, 2, true) {
		t.Error("no pushes", places, d, ok)
	}
	list := []impl.Push{push(10, false, 3, 1), push(10, true), push(20, false, 3, 1, 2, -1), push(5, false, 9, 1), push(7, false)}
	places, d, ok := impl.DriveRun(drive(30, 0, 0, false), list)
	if !ok || !slices.Equal(places, []int64{40, 40, 20, 25, 32}) || d != drive(32, 1, 2, false) {
		t.Error(places, d, ok)
	}
	many := impl.Push{Orders: sameOrders(51, 1, -1), Speed: 10}
	places, d, ok = impl.DriveRun(drive(30, 1, 0, false), []impl.Push{many, {Orders: sameOrders(50, 1, -1), Speed: 10}})
	if !ok || !slices.Equal(places, []int64{40, 30}) || d != drive(30, -1, 1, false) {
		t.Error("too many orders are none", places, d, ok)
	}
}

func TestP17DriveRunBounds(t *testing.T) {
	for _, n := range []int{0, 1, 999, 1000, 1001, 2000} {
		places, d, ok := runsDrive(t, drive(0, 0, 0, false), slices.Repeat([]impl.Push{push(1, false, 1, 1)}, n))
		if ok != (n <= 1000) || ok && len(places) != n || !ok && (places != nil || d != impl.Drive{}) {
			t.Error(n, ok, len(places), d)
		}
	}
	for _, d := range []impl.Drive{drive(-1, 0, 0, false), drive(101, 0, 0, false), drive(0, 2, 0, false), drive(0, -2, 0, false), drive(0, 0, 1, false), drive(0, 1, 21, false), drive(0, 1, -1, false)} {
		for n := range 3 {
			if places, then, ok := runsDrive(t, d, slices.Repeat([]impl.Push{push(1, false)}, n)); ok || len(places) != 0 || then != (impl.Drive{}) {
				t.Error(d, n, places, then, ok)
			}
		}
	}
	for _, speed := range []int64{math.MinInt64, -1, 0, 101, math.MaxInt64} {
		for at := range 5 {
			list := slices.Repeat([]impl.Push{push(10, false, 1, 1)}, 5)
			list[at].Speed = speed
			if places, d, ok := runsDrive(t, drive(0, 0, 0, true), list); ok || len(places) != 0 || d != (impl.Drive{}) {
				t.Error(speed, at, places, d, ok)
			}
		}
	}
}

func somePushes(seed int64, n int) []impl.Push {
	speeds, many, jams := someNumbers(seed, n, 1, 40), someNumbers(seed+7, n, 0, 4), someNumbers(seed+9, n, 0, 3)
	list := make([]impl.Push, n)
	for i := range list {
		list[i] = impl.Push{Orders: someOrders(seed+int64(i), int(many[i])), Speed: speeds[i], Jam: jams[i] == 0}
	}
	return list
}

// TestP17DriveRuns: a run in two pieces is one run, and it leaves what it was given.
func TestP17DriveRuns(t *testing.T) {
	for seed := range int64(200) {
		list, d := somePushes(seed, int(seed%60)), drive(seed%101, 0, 0, seed%2 == 0)
		kept := make([]impl.Push, len(list))
		for i, p := range list {
			kept[i] = impl.Push{Orders: slices.Clone(p.Orders), Speed: p.Speed, Jam: p.Jam}
		}
		places, then, ok := runsDrive(t, d, list)
		cut := len(list) / 3
		first, mid, _ := impl.DriveRun(d, list[:cut])
		second, end, _ := impl.DriveRun(mid, list[cut:])
		if !ok || end != then || !slices.Equal(append(first, second...), places) {
			t.Error(seed, end, then)
		}
		for i, p := range list {
			if p.Speed != kept[i].Speed || p.Jam != kept[i].Jam || !slices.Equal(p.Orders, kept[i].Orders) {
				t.Error("written into", seed, i)
			}
		}
	}
}

func wantLatch(l impl.Latch, cause bool, reset bool, cycle int64) (impl.Latch, bool) {
	if l.First < 0 || l.First > 1000000000000 || !l.On && l.First != 0 || cycle < 0 || cycle > 1000000000000 {
		return impl.Latch{}, false
	}
	if cause && l.On || !cause && !reset {
		return l, true
	}
	if cause {
		return impl.Latch{On: true, First: cycle}, true
	}
	return impl.Latch{}, true
}

func TestP17LatchTold(t *testing.T) {
	on := func(first int64) impl.Latch { return impl.Latch{On: true, First: first} }
	const most = 1000000000000
	for _, c := range []struct {
		name         string
		l            impl.Latch
		cause, reset bool
		cycle        int64
		then         impl.Latch
		ok           bool
	}{
		{"a cause", impl.Latch{}, true, false, 7, on(7), true},
		{"a cause with reset", impl.Latch{}, true, true, 7, on(7), true},
		{"a cause while on", on(3), true, false, 7, on(3), true},
		{"a cause while on, with reset", on(3), true, true, 7, on(3), true},
		{"a cause while on, earlier", on(9), true, false, 7, on(9), true},
		{"reset", on(3), false, true, 7, impl.Latch{}, true},
		{"reset while not on", impl.Latch{}, false, true, 7, impl.Latch{}, true},
		{"nothing", on(3), false, false, 7, on(3), true},
		{"nothing while not on", impl.Latch{}, false, false, 7, impl.Latch{}, true},
		{"the first cycle", impl.Latch{}, true, false, 0, on(0), true},
		{"the last cycle", impl.Latch{}, true, false, most, on(most), true},
		{"beyond the last cycle", impl.Latch{}, true, false, most + 1, impl.Latch{}, false},
		{"ahead of the first cycle", impl.Latch{}, true, false, -1, impl.Latch{}, false},
		{"beyond, though it was on", on(3), false, false, most + 1, impl.Latch{}, false},
		{"since the last cycle", on(most), false, false, 0, on(most), true},
		{"since beyond it", on(most + 1), false, true, 0, impl.Latch{}, false},
		{"since ahead of all", on(-1), true, true, 0, impl.Latch{}, false},
		{"not on, but since one", impl.Latch{First: 1}, true, false, 0, impl.Latch{}, false},
	} {
		if got, ok := impl.LatchStep(c.l, c.cause, c.reset, c.cycle); got != c.then || ok != c.ok {
			t.Error(c.name, got, ok)
		}
	}
}

func TestP17EveryLatch(t *testing.T) {
	edges := []int64{math.MinInt64, -1, 0, 1, 5, 999999999999, 1000000000000, 1000000000001, math.MaxInt64}
	for _, first := range edges {
		for _, cycle := range edges {
			for bits := range 8 {
				f := flagsOf(bits, 3)
				l := impl.Latch{On: f[0], First: first}
				got, ok := impl.LatchStep(l, f[1], f[2], cycle)
				if e, may := wantLatch(l, f[1], f[2], cycle); got != e || ok != may {
					t.Error(l, f, cycle, got, ok, e, may)
				}
			}
		}
	}
}

// TestP17LatchHoldsItsFirst: it is on since the first cause behind the last reset
// that came alone.
func TestP17LatchHoldsItsFirst(t *testing.T) {
	for seed := range int64(200) {
		says, l := someNumbers(seed, 60, 0, 3), impl.Latch{}
		for cycle, s := range says {
			l, _ = impl.LatchStep(l, s&1 == 1, s&2 == 2, int64(cycle))
			begin := 1 + lastOf(says[:cycle+1], 2)
			first := slices.IndexFunc(says[begin:cycle+1], func(n int64) bool { return n&1 == 1 })
			if l.On != (first >= 0) || l.On && l.First != int64(begin+first) {
				t.Fatal(seed, cycle, l)
			}
		}
	}
}

func lastOf(list []int64, n int64) int {
	for i := len(list) - 1; i >= 0; i-- {
		if list[i] == n {
			return i
		}
	}
	return -1
}

// locksOf takes places two by two.
func locksOf(places ...int64) []impl.Lock {
	list := []impl.Lock{}
	for i := 0; i < len(places); i += 2 {
		list = append(list, impl.Lock{If: places[i], Not: places[i+1]})
	}
	return list
}

// wantPermits keeps those that have gone through as a list of places.
func wantPermits(wants []bool, locks []impl.Lock) []bool {
	if len(wants) > 50 || len(locks) > 200 {
		return nil
	}
	gone, out := []int64{}, []bool{}
	for i, w := range wants {
		place, goes := int64(i), w
		for _, g := range gone {
			if slices.Contains(locks, impl.Lock{If: g, Not: place}) || slices.Contains(locks, impl.Lock{If: place, Not: g}) {
				goes = false
			}
		}
		if goes {
			gone = append(gone, place)
		}
		out = append(out, goes)
	}
	return out
}

func permits(t *testing.T, wants []bool, locks []impl.Lock) []bool {
	t.Helper()
	keptWants, keptLocks := slices.Clone(wants), slices.Clone(locks)
	got := impl.Permits(wants, locks)
	if want := wantPermits(wants, locks); !slices.Equal(got, want) {
		t.Error(wants, locks, got, want)
	}
	if !slices.Equal(keptWants, wants) || !slices.Equal(keptLocks, locks) {
		t.Error("written into", wants, locks)
	}
	for _, l := range locks {
		if l.If >= 0 && l.Not >= 0 && l.If < int64(len(got)) && l.Not < int64(len(got)) && l.If != l.Not && got[l.If] && got[l.Not] {
			t.Error("both go through", wants, locks, got)
		}
	}
	return got
}

func manyLocks(n int, a int64, b int64) []impl.Lock {
	return slices.Repeat([]impl.Lock{{If: a, Not: b}}, n)
}

func TestP17PermitsTold(t *testing.T) {
	yes := func(n int) []bool { return slices.Repeat([]bool{true}, n) }
	for _, c := range []struct {
		name  string
		wants []bool
		locks []impl.Lock
		goes  []bool
	}{
		{"none", nil, nil, nil},
		{"none, with a lock", nil, locksOf(0, 1), nil},
		{"no locks", []bool{true, false, true}, nil, []bool{true, false, true}},
		{"a lock", yes(2), locksOf(0, 1), []bool{true, false}},
		{"a lock, the other way round", yes(2), locksOf(1, 0), []bool{true, false}},
		{"what is not wanted bars nothing", []bool{false, true}, locksOf(0, 1), []bool{false, true}},
		{"what was barred bars nothing", yes(3), locksOf(0, 1, 1, 2), []bool{true, false, true}},
		{"a row of locks", yes(5), locksOf(0, 1, 1, 2, 2, 3, 3, 4), []bool{true, false, true, false, true}},
		{"all by one", yes(4), locksOf(0, 1, 0, 2, 3, 0), []bool{true, false, false, false}},
		{"one by all", yes(4), locksOf(0, 3, 1, 3, 2, 3), []bool{true, true, true, false}},
		{"one place twice", yes(2), locksOf(0, 0, 1, 1), yes(2)},
		{"no place below", yes(2), locksOf(-1, 0, 1, -1, -1, -1), yes(2)},
		{"no place above", yes(2), locksOf(2, 0, 1, 2, 2, 2), yes(2)},
		{"no place at all", yes(2), locksOf(math.MinInt64, 0, 1, math.MaxInt64, 1<<32, 0), yes(2)},
		{"a lock behind one that counts for nothing", yes(2), locksOf(0, 9, 0, 0, -1, 1, 0, 1), []bool{true, false}},
		{"as many wants as may be", yes(50), locksOf(0, 49), append(yes(49), false)},
		{"too many wants", yes(51), nil, nil},
		{"as many locks as may be", yes(2), append(manyLocks(199, 5, 5), impl.Lock{If: 0, Not: 1}), []bool{true, false}},
		{"too many locks", yes(2), manyLocks(201, 0, 1), nil},
		{"too many locks that count for nothing", yes(2), manyLocks(201, 5, 5), nil},
	} {
		if got := impl.Permits(c.wants, c.locks); !slices.Equal(got, c.goes) {
			t.Error(c.name, got)
		}
	}
}

// TestP17EveryPermit goes through up to three wants with up to two locks, all
// places and those just beyond.
func TestP17EveryPermit(t *testing.T) {
	for n := range 4 {
		for row := range 1 << n {
			for many := range 3 {
				allSays(2*many, int64(n)+2, func(says []int64) {
					places := []int64{}
					for _, s := range says {
						places = append(places, s-1)
					}
					permits(t, flagsOf(row, n), locksOf(places...))
				})
			}
		}
	}
}

func TestP17SomePermits(t *testing.T) {
	for seed := range int64(400) {
		n, many := int(seed%52), int(seed*7%203)
		places := someNumbers(seed, 2*many, -1, int64(n))
		wants := []bool{}
		for _, w := range someNumbers(seed+3, n, 0, 4) {
			wants = append(wants, w > 0)
		}
		got := permits(t, wants, locksOf(places...))
		for i := range got {
			got[i] = !got[i]
		}
		permits(t, wants, locksOf(places...))
	}
}
