package tests

import (
	"math"
	"slices"
	"testing"

	"loop.example/g00062/impl"
)

func machine(run int64, start int64, time int64, rank int64) impl.Machine {
	return impl.Machine{Run: run, Start: start, Time: time, Rank: rank}
}

// machineBounds: each field of a Machine with its bounds.
func machineBounds() []struct {
	field     func(*impl.Machine) *int64
	low, high int64
} {
	return []struct {
		field     func(*impl.Machine) *int64
		low, high int64
	}{
		{func(m *impl.Machine) *int64 { return &m.Run }, 0, 1000000},
		{func(m *impl.Machine) *int64 { return &m.Start }, 0, 1000000},
		{func(m *impl.Machine) *int64 { return &m.Time }, 1, 20},
		{func(m *impl.Machine) *int64 { return &m.Rank }, 1, 9},
	}
}

// edgeMachines have one field at one of its bounds, wrongMachines one outside.
func edgeMachines() []impl.Machine {
	list := []impl.Machine{machine(0, 0, 1, 1), machine(1000000, 1000000, 20, 9)}
	for _, b := range machineBounds() {
		for _, n := range []int64{b.low, b.high} {
			m := machine(5, 6, 7, 8)
			*b.field(&m) = n
			list = append(list, m)
		}
	}
	return list
}

func wrongMachines() []impl.Machine {
	list := []impl.Machine{{}}
	for _, b := range machineBounds() {
		for _, n := range []int64{b.low - 1, b.high + 1, math.MinInt64, math.MaxInt64} {
			m := machine(5, 6, 7, 8)
			*b.field(&m) = n
			list = append(list, m)
		}
	}
	return list
}

// wrongLists hold a wrong machine at each of several places, or one machine too many.
func wrongLists() [][]impl.Machine {
	good := []impl.Machine{machine(1, 2, 3, 4), machine(5, 6, 7, 8), machine(0, 0, 1, 9)}
	lists := [][]impl.Machine{slices.Repeat(good[:1], 61), slices.Repeat(good, 40)}
	for _, wrong := range wrongMachines() {
		lists = append(lists, []impl.Machine{wrong})
		for place := range good {
			list := slices.Clone(good)
			list[place] = wrong
			lists = append(lists, list)
		}
	}
	return lists
}

func someMachines(seed int64, n int, most int64, time int64, ranks int64) []impl.Machine {
	runs, starts := someNumbers(seed, n, 0, most), someNumbers(seed+1, n, 0, most)
	times, rank := someNumbers(seed+2, n, 1, time), someNumbers(seed+3, n, 1, ranks)
	list := make([]impl.Machine, n)
	for i := range list {
		list[i] = machine(runs[i], starts[i], times[i], rank[i])
	}
	return list
}

// wantLoading keeps, tick by tick ahead, what is taken there and how many are starting there.
func wantLoading(list []impl.Machine, most int64) []int64 {
	const ticks = 2000
	var taken, starting [ticks]int64
	times := slices.Repeat([]int64{-1}, len(list))
	for t := range ticks - 20 {
		chosen := -1
		for rank := int64(1); rank <= 9; rank++ {
			for place, m := range list {
				if chosen < 0 && m.Rank == rank && times[place] < 0 && taken[t]+m.Run+m.Start <= most {
					chosen = place
				}
			}
		}
		if chosen < 0 && starting[t] == 0 {
			return times
		}
		if chosen < 0 {
			continue
		}
		m := list[chosen]
		times[chosen] = int64(t)
		for later := t; later < ticks; later++ {
			taken[later] += m.Run
			if int64(later-t) < m.Time {
				taken[later] += m.Start
				starting[later]++
			}
		}
	}
	panic("it does not end")
}

func wantPower(list []impl.Machine, times []int64, t int64) int64 {
	sum := int64(0)
	for i, m := range list {
		if times[i] >= 0 && t >= times[i] {
			sum += m.Run
		}
		if times[i] >= 0 && t >= times[i] && t-times[i] < m.Time {
			sum += m.Start
		}
	}
	return sum
}

// loads asks Loading where it must answer, and what is promised of it.
func loads(t *testing.T, list []impl.Machine, most int64) []int64 {
	t.Helper()
	kept := slices.Clone(list)
	times, ok := impl.Loading(list, most)
	if told := wantLoading(list, most); !ok || !slices.Equal(times, told) {
		t.Fatal(list, most, times, ok, told)
	}
	last := int64(0)
	for _, at := range times {
		last = max(last, at)
	}
	for at := int64(0); at <= last+21; at++ {
		p := impl.PowerAt(list, times, at)
		if p > most {
			t.Fatal("more is taken than the diesel bears", list, most, times, at, p)
		}
		if p != wantPower(list, times, at) {
			t.Fatal("PowerAt", list, times, at, p)
		}
	}
	if !slices.Equal(list, kept) {
		t.Fatal("the machines are changed", kept, list)
	}
	return times
}

func TestP11Constants(t *testing.T) {
	if impl.MaxMachines != 60 || impl.MaxList != 1000 {
		t.Error("a constant", impl.MaxMachines, impl.MaxList)
	}
}

func TestP11LoadingTold(t *testing.T) {
	for _, c := range []struct {
		name string
		list []impl.Machine
		most int64
		told []int64
	}{
		{"none", nil, 0, nil},
		{"none on a great diesel", []impl.Machine{}, 100000000, nil},
		{"one that takes nothing", []impl.Machine{machine(0, 0, 1, 1)}, 0, []int64{0}},
		{"one that is just borne", []impl.Machine{machine(10, 20, 5, 1)}, 30, []int64{0}},
		{"one that is not", []impl.Machine{machine(10, 20, 5, 1)}, 29, []int64{-1}},
		{"two that could begin at one tick", []impl.Machine{machine(1, 1, 1, 1), machine(1, 1, 1, 1)}, 100, []int64{0, 1}},
		{"the lesser Rank first", []impl.Machine{machine(1, 1, 1, 9), machine(1, 1, 1, 2), machine(1, 1, 1, 5)}, 100, []int64{2, 0, 1}},
		{"ties of Rank by place", []impl.Machine{machine(1, 1, 1, 5), machine(1, 1, 1, 4), machine(1, 1, 1, 5), machine(1, 1, 1, 4)}, 100, []int64{2, 0, 3, 1}},
		{"too great ahead of lesser ones", []impl.Machine{machine(50, 60, 3, 1), machine(10, 10, 2, 2), machine(10, 10, 2, 3)}, 100, []int64{-1, 0, 1}},
		{"too great by its place alone", []impl.Machine{machine(50, 60, 3, 1), machine(10, 10, 2, 1)}, 100, []int64{-1, 0}},
		{"only when the other's start is over", []impl.Machine{machine(10, 80, 7, 1), machine(10, 80, 1, 1)}, 100, []int64{0, 7}},
		{"one tick earlier it is not borne", []impl.Machine{machine(10, 1, 7, 1), machine(10, 80, 1, 1)}, 100, []int64{0, 7}},
		{"just borne while the other starts", []impl.Machine{machine(10, 1, 7, 1), machine(10, 79, 1, 1)}, 100, []int64{0, 1}},
		{"a lesser one goes ahead meanwhile", []impl.Machine{machine(10, 80, 3, 1), machine(10, 70, 1, 1), machine(5, 5, 1, 9)}, 100, []int64{0, 3, 1}},
		{"the greater one comes when there is room", []impl.Machine{machine(10, 40, 6, 1), machine(10, 60, 2, 2), machine(10, 10, 2, 3), machine(10, 10, 2, 4)}, 100, []int64{0, 6, 1, 2}},
		{"none begins while one still starts", []impl.Machine{machine(40, 50, 20, 3), machine(30, 20, 4, 3)}, 100, []int64{0, 20}},
		{"what runs leaves no room", []impl.Machine{machine(60, 0, 20, 1), machine(60, 0, 1, 1)}, 100, []int64{0, -1}},
		{"what runs leaves room behind a start", []impl.Machine{machine(50, 50, 4, 1), machine(40, 10, 1, 1), machine(10, 0, 1, 1), machine(1, 0, 1, 1)}, 100, []int64{0, 4, 5, -1}},
		{"two starts one behind the other end", []impl.Machine{machine(10, 30, 5, 1), machine(10, 30, 5, 1), machine(10, 30, 5, 1)}, 100, []int64{0, 1, 5}},
		{"one that is not borne alone", []impl.Machine{machine(10, 100, 5, 1)}, 100, []int64{-1}},
	} {
		times, ok := impl.Loading(c.list, c.most)
		if !ok || !slices.Equal(times, c.told) {
			t.Error(c.name, times, ok, c.told)
		}
		loads(t, c.list, c.most)
	}
}

func TestP11DieselIsNotOverloaded(t *testing.T) {
	for seed := range int64(300) {
		list := someMachines(4*seed, int(seed%13), 60, 1+seed%20, 1+seed%9)
		for _, most := range []int64{0, 1, 59, 60, 100, 119, 120, 150, 300, 1000, 100000000} {
			loads(t, list, most)
		}
	}
	for seed := range int64(12) {
		list := someMachines(4*seed+2000, 60, 1000000, 20, 9)
		for _, most := range []int64{1000000, 2000000, 10000000, 31000000, 40000000, 100000000} {
			loads(t, list, most)
		}
	}
}

// TestP11SmallLoadings: all rows of three of a few machines.
func TestP11SmallLoadings(t *testing.T) {
	var kinds []impl.Machine
	for _, run := range []int64{0, 2, 3} {
		for _, start := range []int64{0, 2} {
			for _, time := range []int64{1, 3} {
				kinds = append(kinds, machine(run, start, time, 1), machine(run, start, time, 2))
			}
		}
	}
	for _, a := range kinds {
		for _, b := range kinds {
			for _, c := range kinds {
				for most := int64(0); most <= 8; most += 2 {
					loads(t, []impl.Machine{a, b, c}, most)
				}
			}
		}
	}
}

func TestP11LoadingBounds(t *testing.T) {
	for _, m := range edgeMachines() {
		for _, most := range []int64{0, 1, 11, 12, 1000000, 1999999, 2000000, 100000000} {
			loads(t, []impl.Machine{m}, most)
			loads(t, []impl.Machine{m, m, machine(1, 1, 2, 5)}, most)
		}
	}
	great := slices.Repeat([]impl.Machine{machine(1000000, 1000000, 20, 9)}, 60)
	loads(t, great, 100000000)
	loads(t, great, 99999999)
	slow := slices.Repeat([]impl.Machine{machine(1, 1000, 20, 9)}, 60)
	if times := loads(t, slow, 1060); times[59] != 59*20 {
		t.Error("one behind the other", times)
	}
	for _, list := range wrongLists() {
		for _, most := range []int64{0, 100, 100000000, -1} {
			if times, ok := impl.Loading(list, most); ok || len(times) != 0 {
				t.Error(len(list), most, times, ok)
			}
		}
	}
	for _, most := range []int64{-1, 100000001, math.MinInt64, math.MaxInt64} {
		for _, list := range [][]impl.Machine{nil, {machine(0, 0, 1, 1)}, great} {
			if times, ok := impl.Loading(list, most); ok || len(times) != 0 {
				t.Error(len(list), most, times, ok)
			}
		}
	}
}

func TestP11PowerTold(t *testing.T) {
	list := []impl.Machine{machine(1, 10, 1, 1), machine(100, 1000, 3, 2), machine(10000, 100000, 20, 9)}
	for _, c := range []struct {
		times []int64
		t     int64
		told  int64
	}{
		{[]int64{-1, -1, -1}, 0, 0},
		{[]int64{-1, -1, -1}, 1000000, 0},
		{[]int64{0, 1, 2}, 0, 11},
		{[]int64{0, 1, 2}, 1, 1101},
		{[]int64{0, 1, 2}, 2, 111101},
		{[]int64{0, 1, 2}, 3, 111101},
		{[]int64{0, 1, 2}, 4, 110101},
		{[]int64{0, 1, 2}, 21, 110101},
		{[]int64{0, 1, 2}, 22, 10101},
		{[]int64{0, 0, 0}, 0, 111111},
		{[]int64{5, -1, 0}, 4, 110000},
		{[]int64{5, -1, 0}, 5, 110011},
		{[]int64{5, -1, 0}, 6, 110001},
		{[]int64{5, -1, 0}, 19, 110001},
		{[]int64{5, -1, 0}, 20, 10001},
		{[]int64{1000000, 1000000, 1000000}, 1000000, 111111},
		{[]int64{1000000, 1000000, 1000000}, 999999, 0},
		{[]int64{999999, 999998, 999997}, 1000000, 111101},
		{[]int64{999999, 999997, 999981}, 1000000, 110101},
		{[]int64{999999, 999997, 999980}, 1000000, 10101},
	} {
		if p := impl.PowerAt(list, c.times, c.t); p != c.told {
			t.Error(c.times, c.t, p, c.told)
		}
	}
	if p := impl.PowerAt(nil, nil, 0); p != 0 {
		t.Error("none", p)
	}
	great := slices.Repeat([]impl.Machine{machine(1000000, 1000000, 20, 9)}, 60)
	if p := impl.PowerAt(great, make([]int64, 60), 19); p != 120000000 {
		t.Error("all the greatest", p)
	}
	if p := impl.PowerAt(great, make([]int64, 60), 20); p != 60000000 {
		t.Error("all the greatest, running", p)
	}
}

func TestP11Power(t *testing.T) {
	for seed := range int64(100) {
		list := someMachines(4*seed, int(seed%61), 1000000, 20, 9)
		times := someNumbers(seed, len(list), -1, 60)
		keptList, keptTimes := slices.Clone(list), slices.Clone(times)
		for at := int64(0); at <= 90; at++ {
			if p := impl.PowerAt(list, times, at); p != wantPower(list, times, at) {
				t.Fatal(list, times, at, p)
			}
		}
		if !slices.Equal(list, keptList) || !slices.Equal(times, keptTimes) {
			t.Fatal("an argument is changed")
		}
	}
}

func TestP11PowerRefused(t *testing.T) {
	list := []impl.Machine{machine(1, 10, 1, 1), machine(100, 1000, 3, 2), machine(10000, 100000, 20, 9)}
	refused := func(list []impl.Machine, times []int64, at int64) {
		t.Helper()
		if p := impl.PowerAt(list, times, at); p != -1 {
			t.Error(len(list), times, at, p)
		}
	}
	for _, wrong := range wrongLists() {
		refused(wrong, make([]int64, len(wrong)), 0)
	}
	for _, n := range []int{0, 1, 2, 4, 60} {
		refused(list, make([]int64, n), 5)
	}
	refused(nil, []int64{0}, 5)
	refused(list, nil, 5)
	for _, wrong := range []int64{-2, 1000001, math.MinInt64, math.MaxInt64} {
		for place := range list {
			times := []int64{-1, 0, 1000000}
			times[place] = wrong
			refused(list, times, 5)
		}
	}
	for _, wrong := range []int64{-1, 1000001, math.MinInt64, math.MaxInt64} {
		refused(list, []int64{0, 1, 2}, wrong)
		refused(list, []int64{-1, -1, -1}, wrong)
		refused(nil, nil, wrong)
	}
}

func runningSum(list []impl.Machine, without []int64) int64 {
	sum := int64(0)
	for i, m := range list {
		if !slices.Contains(without, int64(i)) {
			sum += m.Run
		}
	}
	return sum
}

func wantShed(list []impl.Machine, most int64) []int64 {
	var cut []int64
	for rank := int64(9); rank >= 1; rank-- {
		for place := len(list) - 1; place >= 0; place-- {
			if list[place].Rank == rank && runningSum(list, cut) > most {
				cut = append(cut, int64(place))
			}
		}
	}
	return cut
}

func sheds(t *testing.T, list []impl.Machine, most int64) {
	t.Helper()
	kept := slices.Clone(list)
	cut := impl.Shed(list, most)
	if told := wantShed(list, most); !slices.Equal(cut, told) {
		t.Fatal(list, most, cut, told)
	}
	if runningSum(list, cut) > most {
		t.Fatal("not enough is cut off", list, most, cut)
	}
	if len(cut) > 0 && runningSum(list, cut[:len(cut)-1]) <= most {
		t.Fatal("without the last one it were enough", list, most, cut)
	}
	if !slices.Equal(list, kept) {
		t.Fatal("the machines are changed")
	}
}

func TestP11ShedTold(t *testing.T) {
	list := []impl.Machine{machine(5, 99, 3, 2), machine(7, 99, 3, 9), machine(3, 99, 3, 9), machine(2, 99, 3, 1), machine(0, 99, 3, 5)}
	for _, c := range []struct {
		most int64
		told []int64
	}{
		{math.MaxInt64, nil}, {18, nil}, {17, nil}, {16, []int64{2}}, {14, []int64{2}}, {13, []int64{2, 1}}, {7, []int64{2, 1}},
		{6, []int64{2, 1, 4, 0}}, {2, []int64{2, 1, 4, 0}}, {1, []int64{2, 1, 4, 0, 3}}, {0, []int64{2, 1, 4, 0, 3}},
		{-1, nil}, {math.MinInt64, nil},
	} {
		if cut := impl.Shed(list, c.most); !slices.Equal(cut, c.told) {
			t.Error(c.most, cut, c.told)
		}
	}
	ties := slices.Repeat([]impl.Machine{machine(1, 0, 1, 4)}, 5)
	if cut := impl.Shed(ties, 2); !slices.Equal(cut, []int64{4, 3, 2}) {
		t.Error("ties from the last place on", cut)
	}
	idle := []impl.Machine{machine(0, 9, 1, 4), machine(0, 9, 1, 4)}
	if cut := impl.Shed(idle, 0); len(cut) != 0 {
		t.Error("what takes nothing", cut)
	}
	if cut := impl.Shed(append(idle, machine(1, 0, 1, 1)), 0); !slices.Equal(cut, []int64{1, 0, 2}) {
		t.Error("what takes nothing stands ahead", cut)
	}
	if cut := impl.Shed(nil, 0); len(cut) != 0 {
		t.Error("none", cut)
	}
}

func TestP11Shed(t *testing.T) {
	for seed := range int64(120) {
		list := someMachines(4*seed, int(seed%14), 40, 20, 1+seed%9)
		for most := int64(0); most <= runningSum(list, nil)+2; most++ {
			sheds(t, list, most)
		}
	}
	for seed := range int64(12) {
		list := someMachines(4*seed+700, 60, 1000000, 20, 9)
		all := runningSum(list, nil)
		for _, most := range append(someNumbers(seed, 20, 0, all), 0, all-1, all, all+1, 100000001, math.MaxInt64) {
			sheds(t, list, most)
		}
	}
	for _, m := range edgeMachines() {
		for _, most := range []int64{0, 4, 5, 999999, 1000000, 1000001} {
			sheds(t, []impl.Machine{m}, most)
			sheds(t, []impl.Machine{m, machine(1, 1, 1, 5), m}, most)
		}
	}
	for _, wrong := range wrongLists() {
		for _, most := range []int64{-1, 0, 1, 100} {
			if cut := impl.Shed(wrong, most); len(cut) != 0 {
				t.Error(len(wrong), most, cut)
			}
		}
	}
}

const batteryMost = 1000000000000
const batteryMoved = 1000000000

func batteryOf(charge int64, most int64, given int64) impl.Battery {
	return impl.Battery{Charge: charge, Most: most, Given: given, Filled: charge + given}
}

func rightBatteries() []impl.Battery {
	return []impl.Battery{
		{}, batteryOf(0, 10, 0), batteryOf(10, 10, 0), batteryOf(9, 10, 4), batteryOf(3, 10, 90),
		batteryOf(0, batteryMost, 0), batteryOf(batteryMost, batteryMost, 0), batteryOf(batteryMost-1, batteryMost, 1),
		batteryOf(0, 0, batteryMost), batteryOf(0, batteryMost, batteryMost), batteryOf(5, 2000000000, batteryMost-5),
		batteryOf(1500000000, 2000000000, 7), batteryOf(0, 5, batteryMost-batteryMoved), batteryOf(0, 5, batteryMost-batteryMoved+1),
		batteryOf(400, 1000, batteryMost-batteryMoved-400), batteryOf(400, 1000, batteryMost-batteryMoved-399),
	}
}

func wrongBatteries() []impl.Battery {
	return []impl.Battery{
		{Charge: 1}, {Charge: 1, Most: 1}, {Given: 1}, {Filled: 1}, {Filled: 1, Most: 1}, {Charge: 1, Most: 1, Given: 1}, {Charge: 1, Filled: 1},
		batteryOf(11, 10, 0), batteryOf(11, 10, 5), batteryOf(-1, 10, 1), batteryOf(-1, 10, 5), batteryOf(-1, -1, 1), batteryOf(0, -1, 0),
		batteryOf(5, 10, -1), batteryOf(5, 10, -5), batteryOf(5, 10, -6), batteryOf(0, batteryMost+1, 0), batteryOf(batteryMost, batteryMost, 1),
		batteryOf(batteryMost+1, batteryMost+1, 0), batteryOf(0, 0, batteryMost+1), batteryOf(1, 1, batteryMost),
		{Charge: 5, Most: 10, Given: 3, Filled: 7}, {Charge: 5, Most: 10, Given: 3, Filled: 9}, {Charge: 5, Most: 10, Given: 8, Filled: 3},
		{Charge: math.MinInt64, Most: 10, Given: math.MinInt64, Filled: 0}, {Charge: math.MaxInt64, Most: math.MaxInt64, Filled: math.MaxInt64},
		{Charge: math.MinInt64, Most: 10, Given: 1, Filled: math.MinInt64 + 1}, {Charge: 2, Most: 10, Given: math.MaxInt64, Filled: math.MinInt64 + 1},
		{Most: math.MaxInt64}, {Most: math.MinInt64}, {Most: 10, Given: math.MinInt64, Filled: math.MinInt64},
	}
}

// wantBattery tells it by what is left: what a step does is judged from its ends.
func wantBattery(b impl.Battery, load int64, fill int64) (impl.Battery, int64, bool) {
	if load < 0 || load > batteryMoved || fill < 0 || fill > batteryMoved || b.Filled+fill > batteryMost || b.Given+load > batteryMost {
		return impl.Battery{}, 0, false
	}
	full := b.Charge + fill
	if full > b.Most {
		full = b.Most
	}
	left := full - load
	if left < 0 {
		left = 0
	}
	given := full - left
	return impl.Battery{Charge: left, Most: b.Most, Given: b.Given + given, Filled: b.Filled + full - b.Charge}, load - given, true
}

func batterySame(t *testing.T, b impl.Battery, load int64, fill int64) (impl.Battery, int64, bool) {
	t.Helper()
	next, lacks, ok := impl.BatteryStep(b, load, fill)
	if told, much, done := wantBattery(b, load, fill); next != told || lacks != much || ok != done {
		t.Fatal(b, load, fill, next, lacks, ok, told, much, done)
	}
	if !ok {
		return next, lacks, ok
	}
	if next.Charge != next.Filled-next.Given || next.Charge < 0 || next.Charge > next.Most || next.Most != b.Most {
		t.Fatal("the book is not balanced", b, next)
	}
	if next.Given-b.Given+lacks != load || next.Filled-b.Filled > fill || lacks > 0 && next.Charge > 0 {
		t.Fatal("the load is not what was given and what lacks", b, load, fill, next, lacks)
	}
	if _, _, again := impl.BatteryStep(next, 0, 0); !again {
		t.Fatal("what a step leaves is not right", next)
	}
	return next, lacks, ok
}

func TestP11BatteryTold(t *testing.T) {
	for _, c := range []struct {
		name       string
		b          impl.Battery
		load, fill int64
		told       impl.Battery
		lacks      int64
	}{
		{"nothing", impl.Battery{}, 0, 0, impl.Battery{}, 0},
		{"a load on nothing", impl.Battery{}, 7, 0, impl.Battery{}, 7},
		{"a fill above what lacks", batteryOf(7, 10, 2), 0, 5, batteryOf(10, 10, 2), 0},
		{"a fill that is just what lacks", batteryOf(7, 10, 2), 0, 3, batteryOf(10, 10, 2), 0},
		{"a fill below what lacks", batteryOf(7, 10, 2), 0, 2, batteryOf(9, 10, 2), 0},
		{"a load above what is there", batteryOf(7, 10, 2), 9, 0, batteryOf(0, 10, 9), 2},
		{"a load that is just there", batteryOf(7, 10, 2), 7, 0, batteryOf(0, 10, 9), 0},
		{"a load below what is there", batteryOf(7, 10, 2), 6, 0, batteryOf(1, 10, 8), 0},
		{"the fill comes first", batteryOf(7, 10, 2), 9, 2, batteryOf(0, 10, 11), 0},
		{"and comes to Most alone", batteryOf(7, 10, 2), 12, 9, batteryOf(0, 10, 12), 2},
		{"the greatest load and fill", batteryOf(0, batteryMost, 0), batteryMoved, batteryMoved, batteryOf(0, batteryMost, batteryMoved), 0},
		{"Filled just at its most", batteryOf(10, 20, batteryMost-15), 0, 5, batteryOf(15, 20, batteryMost-15), 0},
		{"Given just at its most", batteryOf(10, 20, batteryMost-15), 15, 0, batteryOf(0, 20, batteryMost-5), 5},
	} {
		next, lacks, ok := impl.BatteryStep(c.b, c.load, c.fill)
		if !ok || next != c.told || lacks != c.lacks {
			t.Error(c.name, next, lacks, ok)
		}
	}
	refused := func(b impl.Battery, load int64, fill int64) {
		t.Helper()
		if next, lacks, ok := impl.BatteryStep(b, load, fill); ok || lacks != 0 || next != (impl.Battery{}) {
			t.Error(b, load, fill, next, lacks, ok)
		}
	}
	refused(batteryOf(10, 20, batteryMost-15), 0, 6)
	refused(batteryOf(10, 20, batteryMost-15), 16, 0)
	refused(batteryOf(20, 20, batteryMost-20), 0, 1)
	refused(batteryOf(0, 20, batteryMost), 1, 0)
	for _, wrong := range []int64{-1, batteryMoved + 1, math.MinInt64, math.MaxInt64} {
		for _, b := range rightBatteries() {
			refused(b, wrong, 0)
			refused(b, 0, wrong)
			refused(b, wrong, wrong)
		}
	}
	for _, b := range wrongBatteries() {
		for _, load := range []int64{0, 1, -1} {
			for _, fill := range []int64{0, 1, -1} {
				refused(b, load, fill)
			}
		}
	}
}

func TestP11BatteryBooks(t *testing.T) {
	moved := []int64{0, 1, 2, 3, 5, 10, 400, 401, 600, 601, 499999999, 500000000, batteryMoved - 1, batteryMoved}
	for _, b := range rightBatteries() {
		for _, load := range moved {
			for _, fill := range moved {
				batterySame(t, b, load, fill)
			}
		}
	}
	for most := int64(0); most <= 4; most++ {
		for charge := int64(0); charge <= most; charge++ {
			for load := int64(0); load <= 6; load++ {
				for fill := int64(0); fill <= 6; fill++ {
					batterySame(t, batteryOf(charge, most, 3), load, fill)
				}
			}
		}
	}
	for seed := range int64(20) {
		b := batteryOf(0, 1500000000, 0)
		low, high := someNumbers(seed, 1500, 0, batteryMoved), someNumbers(seed+50, 1500, 0, batteryMoved)
		given, filled := int64(0), int64(0)
		for i := range low {
			next, lacks, ok := batterySame(t, b, low[i], high[i])
			if !ok {
				break
			}
			given += low[i] - lacks
			filled += next.Filled - b.Filled
			b = next
			if b.Given != given || b.Filled != filled || b.Charge != filled-given {
				t.Fatal("the book of a long run is not balanced", b, given, filled)
			}
		}
		if b.Filled < batteryMost/4 {
			t.Fatal("the run is too short to tell", b)
		}
	}
}

func wantLasts(b impl.Battery, loads []int64) int64 {
	for i, load := range loads {
		next, lacks, ok := wantBattery(b, load, 0)
		if !ok || lacks != 0 {
			return int64(i)
		}
		b = next
	}
	return int64(len(loads))
}

func TestP11Lasts(t *testing.T) {
	for _, c := range []struct {
		name  string
		b     impl.Battery
		loads []int64
		told  int64
	}{
		{"no loads", batteryOf(10, 10, 0), nil, 0},
		{"all of them", batteryOf(10, 10, 0), []int64{1, 2, 3}, 3},
		{"the last one is just borne", batteryOf(10, 10, 0), []int64{4, 6}, 2},
		{"and nothing behind it", batteryOf(10, 10, 0), []int64{4, 6, 1}, 2},
		{"but a load of 0", batteryOf(10, 10, 0), []int64{4, 6, 0, 0, 1, 0}, 4},
		{"one above", batteryOf(10, 10, 0), []int64{4, 7, 1}, 1},
		{"the first one", batteryOf(10, 10, 0), []int64{11, 1}, 0},
		{"a refused one", batteryOf(10, 10, 0), []int64{1, -1, 1}, 1},
		{"a refused one at first", batteryOf(10, 10, 0), []int64{-1, 1}, 0},
		{"a refused great one", batteryOf(5000000000, 5000000000, 0), []int64{batteryMoved, batteryMoved + 1, 1}, 1},
		{"the greatest ones", batteryOf(5000000000, 5000000000, 0), slices.Repeat([]int64{batteryMoved}, 7), 5},
		{"loads of the bounds of int64", batteryOf(10, 10, 0), []int64{1, 1, math.MaxInt64}, 2},
		{"and the other one", batteryOf(10, 10, 0), []int64{1, 1, math.MinInt64}, 2},
		{"a book that is just full", batteryOf(10, 10, batteryMost-10), []int64{4, 6, 0, 1}, 3},
		{"nothing is there", impl.Battery{}, []int64{0, 0, 1}, 2},
		{"a thousand", batteryOf(1000, 1000, 0), slices.Repeat([]int64{1}, 1000), 1000},
		{"a thousand and the last not", batteryOf(999, 1000, 0), slices.Repeat([]int64{1}, 1000), 999},
		{"too many", batteryOf(1000, 1000, 0), slices.Repeat([]int64{0}, 1001), 0},
		{"far too many", batteryOf(1000, 1000, 0), slices.Repeat([]int64{0}, 3000), 0},
	} {
		kept := slices.Clone(c.loads)
		if n := impl.Lasts(c.b, c.loads); n != c.told {
			t.Error(c.name, n, c.told)
		}
		if !slices.Equal(c.loads, kept) {
			t.Error(c.name, "the loads are changed")
		}
	}
	for _, wrong := range wrongBatteries() {
		for _, loads := range [][]int64{nil, {0}, {0, 0, 0}, {1}} {
			if n := impl.Lasts(wrong, loads); n != 0 {
				t.Error(wrong, loads, n)
			}
		}
	}
	for seed := range int64(60) {
		loads := someNumbers(seed, int(seed*16), -1+seed%2, 40)
		for _, b := range append(rightBatteries(), batteryOf(3000, 9000, 5)) {
			if n := impl.Lasts(b, loads); n != wantLasts(b, loads) {
				t.Fatal(b, loads, n)
			}
		}
	}
}
