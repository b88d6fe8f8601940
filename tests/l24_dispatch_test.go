package tests

import (
	"math"
	"slices"
	"testing"

	"loop.example/g00062/impl"
)

func plant(least int64, most int64, cost int64, start int64, stay int64) impl.Plant {
	return impl.Plant{Least: least, Most: most, Cost: cost, Start: start, Stay: stay}
}

// twoPlants are the machines of which most of what is told here speaks.
func twoPlants() []impl.Plant {
	return []impl.Plant{plant(10, 50, 5, 100, 2), plant(0, 30, 9, 10, 1)}
}

// planOf takes a text for each period, with a 1 for each machine that is on.
func planOf(periods ...string) [][]bool {
	plan := [][]bool{}
	for _, p := range periods {
		row := []bool{}
		for _, c := range p {
			row = append(row, c == '1')
		}
		plan = append(plan, row)
	}
	return plan
}

func samePlan(a [][]bool, b [][]bool) bool {
	return slices.EqualFunc(a, b, slices.Equal[[]bool])
}

func planCopy(plan [][]bool) [][]bool {
	out := [][]bool{}
	for _, row := range plan {
		out = append(out, slices.Clone(row))
	}
	return out
}

func wantPlants(plants []impl.Plant) bool {
	for _, p := range plants {
		if p.Least < 0 || p.Most < p.Least || p.Most > 100000 || p.Cost < 0 || p.Cost > 10000 || p.Start < 0 || p.Start > 100000000 || p.Stay < 1 || p.Stay > 10 {
			return false
		}
	}
	return len(plants) == 1 || len(plants) == 2 || len(plants) == 3
}

func wantLoads(loads []int64) bool {
	for _, n := range loads {
		if n < 0 || n > 300000 {
			return false
		}
	}
	return len(loads) >= 1 && len(loads) <= 5
}

// cheapestWithRoom is the first place of those that are on, have room and cost
// least; -1 when none has room.
func cheapestWithRoom(plants []impl.Plant, on []bool, given []int64) int {
	best := -1
	for i, p := range plants {
		if on[i] && given[i] < p.Most && (best < 0 || p.Cost < plants[best].Cost) {
			best = i
		}
	}
	return best
}

// wantMerit fills one machine after the other, each time the cheapest that is left.
func wantMerit(plants []impl.Plant, on []bool, load int64) ([]int64, bool) {
	if !wantPlants(plants) || len(on) != len(plants) || load < 0 {
		return nil, false
	}
	given := make([]int64, len(plants))
	for i, p := range plants {
		if on[i] {
			given[i] = p.Least
			load -= p.Least
		}
	}
	for load > 0 {
		next := cheapestWithRoom(plants, on, given)
		if next < 0 {
			return nil, false
		}
		more := min(load, plants[next].Most-given[next])
		given[next] += more
		load -= more
	}
	if load < 0 {
		return nil, false
	}
	return given, true
}

// spells are the periods from which on a machine is on, and behind which it is off.
func spells(plan [][]bool, machine int) [][2]int {
	list, begun := [][2]int{}, -1
	for period, on := range plan {
		if on[machine] && begun < 0 {
			begun = period
		}
		if !on[machine] && begun >= 0 {
			list, begun = append(list, [2]int{begun, period}), -1
		}
	}
	if begun >= 0 {
		list = append(list, [2]int{begun, len(plan)})
	}
	return list
}

// wantCostOf goes machine by machine, spell by spell.
func wantCostOf(plants []impl.Plant, loads []int64, plan [][]bool) int64 {
	if !wantPlants(plants) || !wantLoads(loads) || len(plan) != len(loads) {
		return -1
	}
	sum := int64(0)
	for period, load := range loads {
		given, ok := wantMerit(plants, plan[period], load)
		if !ok {
			return -1
		}
		for i, g := range given {
			sum += g * plants[i].Cost
		}
	}
	for i, p := range plants {
		for _, spell := range spells(plan, i) {
			if int64(spell[1]-spell[0]) < p.Stay && spell[1] < len(plan) {
				return -1
			}
			sum += p.Start
		}
	}
	return sum
}

// everyPlan visits all plans, in the order of their flags.
func everyPlan(machines int, periods int, visit func([][]bool)) {
	many := machines * periods
	for row := range 1 << many {
		plan := [][]bool{}
		for period := range periods {
			flags := []bool{}
			for i := range machines {
				flags = append(flags, row>>(many-1-period*machines-i)&1 == 1)
			}
			plan = append(plan, flags)
		}
		visit(plan)
	}
}

func wantBest(plants []impl.Plant, loads []int64) ([][]bool, int64) {
	if !wantPlants(plants) || !wantLoads(loads) {
		return nil, -1
	}
	var best [][]bool
	least := int64(-1)
	everyPlan(len(plants), len(loads), func(plan [][]bool) {
		if cost := wantCostOf(plants, loads, plan); cost >= 0 && (least < 0 || cost < least) {
			best, least = plan, cost
		}
	})
	return best, least
}

func wantFloor(plants []impl.Plant, loads []int64) int64 {
	if !wantPlants(plants) || !wantLoads(loads) {
		return -1
	}
	sum := int64(0)
	for _, load := range loads {
		given := make([]int64, len(plants))
		for load > 0 {
			next := cheapestWithRoom(plants, slices.Repeat([]bool{true}, len(plants)), given)
			if next < 0 {
				return -1
			}
			given[next] = min(load, plants[next].Most)
			load -= given[next]
			sum += given[next] * plants[next].Cost
		}
	}
	return sum
}

func wantMetered(readings []impl.Reading, loss int64) (int64, int64) {
	if len(readings) > 300 || loss < 0 || loss > 1000 {
		return -1, -1
	}
	sum := int64(0)
	for _, r := range readings {
		if r.From < 0 || r.To < 0 || r.From > 99999 || r.To > 99999 {
			return -1, -1
		}
		sum += r.To - r.From
		if r.To < r.From {
			sum += 100000
		}
	}
	return sum, sum - floorBy(sum*loss, 1000)
}

// merits holds what machines give against what is wanted, that it is the load, and
// that each keeps its bounds.
func merits(t *testing.T, plants []impl.Plant, on []bool, load int64) ([]int64, bool) {
	t.Helper()
	kept, keptOn := slices.Clone(plants), slices.Clone(on)
	given, ok := impl.Merit(plants, on, load)
	if want, may := wantMerit(plants, on, load); ok != may || !slices.Equal(given, want) {
		t.Error("merit", plants, on, load, given, ok, want, may)
	}
	sum := int64(0)
	for i, g := range given {
		sum += g
		if on[i] && (g < plants[i].Least || g > plants[i].Most) || !on[i] && g != 0 {
			t.Error("out of its bounds", plants, on, load, given)
		}
	}
	if ok && sum != load || !ok && len(given) != 0 {
		t.Error("not the load", plants, on, load, given, ok)
	}
	if !slices.Equal(plants, kept) || !slices.Equal(on, keptOn) {
		t.Error("written into", plants, on)
	}
	return given, ok
}

func costs(t *testing.T, plants []impl.Plant, loads []int64, plan [][]bool) int64 {
	t.Helper()
	kept, keptLoads, keptPlan := slices.Clone(plants), slices.Clone(loads), planCopy(plan)
	cost := impl.CostOf(plants, loads, plan)
	if want := wantCostOf(plants, loads, plan); cost != want {
		t.Error("cost", plants, loads, plan, cost, want)
	}
	if !slices.Equal(plants, kept) || !slices.Equal(loads, keptLoads) || !samePlan(plan, keptPlan) {
		t.Error("written into", plants, loads, plan)
	}
	return cost
}

// bests holds the best plan against what is wanted, that it costs what is told,
// and that this is not below the floor.
func bests(t *testing.T, plants []impl.Plant, loads []int64) ([][]bool, int64) {
	t.Helper()
	kept, keptLoads := slices.Clone(plants), slices.Clone(loads)
	plan, cost := impl.Best(plants, loads)
	if want, least := wantBest(plants, loads); cost != least || !samePlan(plan, want) {
		t.Error("best", plants, loads, plan, cost, want, least)
	}
	floor := impl.Floor(plants, loads)
	if want := wantFloor(plants, loads); floor != want {
		t.Error("floor", plants, loads, floor, want)
	}
	if cost >= 0 && (impl.CostOf(plants, loads, plan) != cost || floor < 0 || cost < floor) || cost < 0 && len(plan) != 0 {
		t.Error("not what it costs", plants, loads, plan, cost, floor)
	}
	if !slices.Equal(plants, kept) || !slices.Equal(loads, keptLoads) {
		t.Error("written into", plants, loads)
	}
	return plan, cost
}

func meters(t *testing.T, readings []impl.Reading, loss int64) (int64, int64) {
	t.Helper()
	kept := slices.Clone(readings)
	sum, left := impl.Metered(readings, loss)
	if n, l := wantMetered(readings, loss); sum != n || left != l {
		t.Error("metered", readings, loss, sum, left, n, l)
	}
	if !slices.Equal(readings, kept) {
		t.Error("written into", readings)
	}
	return sum, left
}

// TestP24Machines: machines that are not right have one answer of each function.
func TestP24Machines(t *testing.T) {
	good := plant(1, 50, 5, 100, 2)
	for _, c := range []struct {
		name   string
		plants []impl.Plant
		right  bool
	}{
		{"none", nil, false}, {"one", []impl.Plant{good}, true}, {"three", []impl.Plant{good, good, good}, true}, {"four", []impl.Plant{good, good, good, good}, false}, {"the zero value", []impl.Plant{{}}, false},
		{"Least at -1", []impl.Plant{plant(-1, 50, 5, 100, 2)}, false}, {"Least at 0", []impl.Plant{plant(0, 50, 5, 100, 2)}, true}, {"Least at Most", []impl.Plant{plant(50, 50, 5, 100, 2)}, true}, {"Least one more", []impl.Plant{plant(51, 50, 5, 100, 2)}, false},
		{"Least and Most at 0", []impl.Plant{plant(0, 0, 5, 100, 2)}, true}, {"Most at -1", []impl.Plant{plant(0, -1, 5, 100, 2)}, false}, {"both at -1", []impl.Plant{plant(-1, -1, 5, 100, 2)}, false},
		{"Most at 100000", []impl.Plant{plant(0, 100000, 5, 100, 2)}, true}, {"Most beyond", []impl.Plant{plant(0, 100001, 5, 100, 2)}, false}, {"both at 100000", []impl.Plant{plant(100000, 100000, 5, 100, 2)}, true}, {"both beyond", []impl.Plant{plant(100001, 100001, 5, 100, 2)}, false},
		{"Cost at -1", []impl.Plant{plant(1, 50, -1, 100, 2)}, false}, {"Cost at 0", []impl.Plant{plant(1, 50, 0, 100, 2)}, true}, {"Cost at 10000", []impl.Plant{plant(1, 50, 10000, 100, 2)}, true}, {"Cost at 10001", []impl.Plant{plant(1, 50, 10001, 100, 2)}, false},
		{"Start at -1", []impl.Plant{plant(1, 50, 5, -1, 2)}, false}, {"Start at 0", []impl.Plant{plant(1, 50, 5, 0, 2)}, true}, {"Start at 100000000", []impl.Plant{plant(1, 50, 5, 100000000, 2)}, true}, {"Start beyond", []impl.Plant{plant(1, 50, 5, 100000001, 2)}, false},
		{"Stay at 0", []impl.Plant{plant(1, 50, 5, 100, 0)}, false}, {"Stay at 1", []impl.Plant{plant(1, 50, 5, 100, 1)}, true}, {"Stay at 10", []impl.Plant{plant(1, 50, 5, 100, 10)}, true}, {"Stay at 11", []impl.Plant{plant(1, 50, 5, 100, 11)}, false},
		{"far off", []impl.Plant{plant(math.MinInt64, math.MaxInt64, 0, 0, 1)}, false}, {"far off in cost", []impl.Plant{plant(0, 50, math.MaxInt64, math.MaxInt64, math.MaxInt64)}, false}, {"far below in cost", []impl.Plant{plant(0, 50, math.MinInt64, math.MinInt64, math.MinInt64)}, false},
		{"the last of three", []impl.Plant{good, good, plant(1, 50, 5, 100, 0)}, false}, {"the second of three", []impl.Plant{good, plant(51, 50, 5, 100, 1), good}, false},
	} {
		n := len(c.plants)
		on := slices.Repeat([]bool{true}, n)
		load := int64(0)
		for _, p := range c.plants {
			load += max(p.Least, 0)
		}
		_, ok := merits(t, c.plants, on, load)
		cost := costs(t, c.plants, []int64{0}, [][]bool{make([]bool, n)})
		_, least := bests(t, c.plants, []int64{0, 0})
		floor := impl.Floor(c.plants, []int64{0})
		if ok != c.right || (cost == 0) != c.right || (least == 0) != c.right || (floor == 0) != c.right {
			t.Error(c.name, ok, cost, least, floor)
		}
		if !c.right && (cost != -1 || least != -1 || floor != -1) {
			t.Error(c.name, cost, least, floor)
		}
		if _, ok := merits(t, c.plants, make([]bool, n), 0); ok != c.right {
			t.Error(c.name, "all off", ok)
		}
	}
}

func TestP24MeritTold(t *testing.T) {
	p := twoPlants()
	three := []impl.Plant{plant(5, 20, 7, 0, 1), plant(3, 20, 4, 0, 1), plant(2, 20, 7, 0, 1)}
	for _, c := range []struct {
		name   string
		plants []impl.Plant
		on     string
		load   int64
		given  []int64
		ok     bool
	}{
		{"the cheap one first", p, "11", 60, []int64{50, 10}, true}, {"just what they must", p, "11", 10, []int64{10, 0}, true}, {"one less", p, "11", 9, nil, false}, {"just what they can", p, "11", 80, []int64{50, 30}, true}, {"one more", p, "11", 81, nil, false},
		{"the first alone", p, "10", 20, []int64{20, 0}, true}, {"the first alone, one less", p, "10", 9, nil, false}, {"the first alone, one more", p, "10", 51, nil, false}, {"the second alone", p, "01", 30, []int64{0, 30}, true}, {"the second alone, 0", p, "01", 0, []int64{0, 0}, true},
		{"all off, 0", p, "00", 0, []int64{0, 0}, true}, {"all off, 1", p, "00", 1, nil, false}, {"below 0", p, "01", -1, nil, false}, {"all off, below 0", p, "00", -1, nil, false}, {"far below", p, "11", math.MinInt64, nil, false}, {"far above", p, "11", math.MaxInt64, nil, false},
		{"on too short", p, "1", 20, nil, false}, {"on too long", p, "110", 20, nil, false}, {"on empty", p, "", 0, nil, false},
		{"a later one is cheaper", three, "111", 10, []int64{5, 3, 2}, true}, {"a later one is cheaper, up to its Most", three, "111", 27, []int64{5, 20, 2}, true}, {"two of one Cost", three, "111", 30, []int64{8, 20, 2}, true}, {"two of one Cost, the first is full", three, "111", 45, []int64{20, 20, 5}, true},
		{"two of one Cost, the cheap one off", three, "101", 9, []int64{7, 0, 2}, true}, {"the first off", three, "011", 30, []int64{0, 20, 10}, true}, {"the last off", three, "110", 30, []int64{10, 20, 0}, true}, {"all of it", three, "111", 60, []int64{20, 20, 20}, true}, {"one more than all", three, "111", 61, nil, false},
		{"the most there is", []impl.Plant{plant(0, 100000, 1, 0, 1), plant(0, 100000, 1, 0, 1), plant(0, 100000, 1, 0, 1)}, "111", 300000, []int64{100000, 100000, 100000}, true},
		{"machines that are not right", []impl.Plant{plant(0, 10, 0, 0, 0)}, "1", 5, nil, false}, {"none", nil, "", 0, nil, false},
	} {
		given, ok := merits(t, c.plants, planOf(c.on)[0], c.load)
		if ok != c.ok || !slices.Equal(given, c.given) {
			t.Error(c.name, given, ok)
		}
	}
}

// TestP24MeritIsCheapest: no other way to give the load costs less.
func TestP24MeritIsCheapest(t *testing.T) {
	for seed := range int64(150) {
		plants := somePlants(seed, 3, 6)
		for row := range 8 {
			on := flagsOf(row, 3)
			for load := int64(0); load <= 20; load++ {
				given, ok := merits(t, plants, on, load)
				least, may := cheapestSplit(plants, on, load)
				if ok != may || ok && given[0]*plants[0].Cost+given[1]*plants[1].Cost+given[2]*plants[2].Cost != least {
					t.Error(plants, on, load, given, ok, least, may)
				}
			}
		}
	}
}

// cheapestSplit tries all ways in which three machines can give a load.
func cheapestSplit(plants []impl.Plant, on []bool, load int64) (int64, bool) {
	least, found := int64(0), false
	lows, highs := [3]int64{}, [3]int64{}
	for i, p := range plants {
		if on[i] {
			lows[i], highs[i] = p.Least, p.Most
		}
	}
	for a := lows[0]; a <= highs[0]; a++ {
		for b := lows[1]; b <= highs[1]; b++ {
			c := load - a - b
			cost := a*plants[0].Cost + b*plants[1].Cost + c*plants[2].Cost
			if c >= lows[2] && c <= highs[2] && (!found || cost < least) {
				least, found = cost, true
			}
		}
	}
	return least, found
}

// somePlants are right, with what they give up to most.
func somePlants(seed int64, n int, most int64) []impl.Plant {
	plants := []impl.Plant{}
	for i := range int64(n) {
		picks := someNumbers(seed*7+i, 5, 0, 1000000)
		high := picks[0] % (most + 1)
		plants = append(plants, plant(picks[1]%(high+1), high, picks[2]%4, picks[3]%(2*most), 1+picks[4]%4))
	}
	return plants
}

func TestP24CostTold(t *testing.T) {
	p, slow := twoPlants(), []impl.Plant{plant(0, 50, 1, 1000, 3)}
	for _, c := range []struct {
		name   string
		plants []impl.Plant
		loads  []int64
		plan   [][]bool
		cost   int64
	}{
		{"stays on", p, []int64{20, 20}, planOf("10", "10"), 300}, {"goes off too early", p, []int64{20, 20}, planOf("10", "01"), -1}, {"just behind its Stay", p, []int64{20, 20, 20}, planOf("10", "10", "01"), 490}, {"to the end", p, []int64{20, 20}, planOf("01", "10"), 390},
		{"all off", p, []int64{0, 0}, planOf("00", "00"), 0}, {"all off, a load", p, []int64{0, 1}, planOf("00", "00"), -1}, {"both", p, []int64{60}, planOf("11"), 450}, {"a Merit is false", p, []int64{20, 9}, planOf("10", "10"), -1}, {"the first Merit is false", p, []int64{9, 20}, planOf("10", "10"), -1},
		{"begins twice", p, []int64{5, 0, 5}, planOf("01", "00", "01"), 110}, {"stays on for nothing", p, []int64{5, 0, 5}, planOf("01", "01", "01"), 100},
		{"Stay 3, on for 1", slow, []int64{9, 0, 0, 0, 0}, planOf("1", "0", "0", "0", "0"), -1}, {"Stay 3, on for 2", slow, []int64{9, 0, 0, 0, 0}, planOf("1", "1", "0", "0", "0"), -1}, {"Stay 3, on for 3", slow, []int64{9, 0, 0, 0, 0}, planOf("1", "1", "1", "0", "0"), 1009}, {"Stay 3, on for 4", slow, []int64{9, 0, 0, 0, 0}, planOf("1", "1", "1", "1", "0"), 1009},
		{"Stay 3, on to the end for 1", slow, []int64{0, 0, 0, 0, 9}, planOf("0", "0", "0", "0", "1"), 1009}, {"Stay 3, on to the end for 2", slow, []int64{0, 0, 0, 0, 9}, planOf("0", "0", "0", "1", "1"), 1009}, {"Stay 3, begins again", slow, []int64{9, 0, 0, 0, 9}, planOf("1", "1", "1", "0", "1"), 2018},
		{"Stay 3, the second time too early", slow, []int64{9, 0, 0, 0, 9}, planOf("0", "1", "1", "0", "1"), -1}, {"Stay 3, the second spell too short", []impl.Plant{plant(0, 50, 1, 1000, 2)}, []int64{9, 0, 0, 9, 0}, planOf("1", "1", "0", "1", "0"), -1}, {"Stay 10", []impl.Plant{plant(0, 50, 1, 7, 10)}, []int64{1, 1, 1, 1, 1}, planOf("1", "1", "1", "1", "1"), 12}, {"Stay 10, off at the last", []impl.Plant{plant(0, 50, 1, 7, 10)}, []int64{1, 1, 1, 1, 0}, planOf("1", "1", "1", "1", "0"), -1},
		{"too few periods", p, []int64{20, 20}, planOf("10"), -1}, {"too many periods", p, []int64{20, 20}, planOf("10", "10", "10"), -1}, {"no periods", p, []int64{20, 20}, nil, -1}, {"too few flags", p, []int64{20, 20}, planOf("10", "1"), -1}, {"too many flags", p, []int64{20, 20}, planOf("10", "100"), -1}, {"no flags", p, []int64{0, 0}, planOf("00", ""), -1}, {"too few flags in the first", p, []int64{20, 20}, planOf("1", "10"), -1},
		{"no loads", p, nil, nil, -1}, {"5 loads", p, []int64{0, 0, 0, 0, 0}, planOf("00", "00", "00", "00", "00"), 0}, {"6 loads", p, make([]int64, 6), planOf("00", "00", "00", "00", "00", "00"), -1}, {"a load at -1", p, []int64{0, -1}, planOf("00", "00"), -1},
		{"all there can be", []impl.Plant{plant(100000, 100000, 10000, 100000000, 1), plant(100000, 100000, 10000, 100000000, 1), plant(100000, 100000, 10000, 100000000, 1)}, []int64{300000, 0, 300000, 0, 300000}, planOf("111", "000", "111", "000", "111"), 9900000000},
		{"a load beyond", []impl.Plant{plant(0, 100000, 1, 0, 1), plant(0, 100000, 1, 0, 1), plant(0, 100000, 1, 0, 1)}, []int64{300001}, planOf("111"), -1}, {"a load of 300000", []impl.Plant{plant(0, 100000, 1, 0, 1), plant(0, 100000, 1, 0, 1), plant(0, 100000, 1, 0, 1)}, []int64{300000}, planOf("111"), 300000},
		{"machines that are not right", []impl.Plant{plant(0, 10, 0, 0, 0)}, []int64{0}, planOf("0"), -1}, {"none", nil, []int64{0}, planOf(""), -1},
	} {
		if cost := costs(t, c.plants, c.loads, c.plan); cost != c.cost {
			t.Error(c.name, cost)
		}
	}
}

func TestP24BestTold(t *testing.T) {
	p := twoPlants()
	same := plant(0, 20, 3, 5, 1)
	for _, c := range []struct {
		name   string
		plants []impl.Plant
		loads  []int64
		plan   [][]bool
		cost   int64
	}{
		{"the great one", p, []int64{20, 20}, planOf("10", "10"), 300}, {"the small one", p, []int64{5, 5}, planOf("01", "01"), 100}, {"both", p, []int64{60}, planOf("11"), 450}, {"nothing asked", p, []int64{0, 0, 0}, planOf("00", "00", "00"), 0},
		{"none at all", p, []int64{20, 81}, nil, -1}, {"none: what they must give", []impl.Plant{plant(10, 20, 1, 1, 1)}, []int64{5}, nil, -1}, {"none: it can't go off", []impl.Plant{plant(10, 20, 1, 1, 3)}, []int64{10, 0, 0}, nil, -1}, {"none: it can't go off ahead", []impl.Plant{plant(10, 20, 1, 1, 2)}, []int64{0, 10, 0}, nil, -1}, {"it goes off in time", []impl.Plant{plant(10, 20, 1, 1, 2)}, []int64{10, 10, 0}, planOf("1", "1", "0"), 21}, {"it is on to the end", []impl.Plant{plant(10, 20, 1, 1, 10)}, []int64{0, 10}, planOf("0", "1"), 11},
		{"of two alike the last", []impl.Plant{same, same}, []int64{10}, planOf("01"), 35}, {"of three alike the last", []impl.Plant{same, same, same}, []int64{10, 10}, planOf("001", "001"), 65}, {"of two alike both", []impl.Plant{same, same}, []int64{10, 21}, planOf("01", "11"), 103},
		{"free to stay on, off is first", []impl.Plant{plant(0, 20, 3, 0, 1)}, []int64{5, 0, 5}, planOf("1", "0", "1"), 30}, {"it had better stay on", []impl.Plant{plant(0, 20, 3, 7, 1)}, []int64{5, 0, 5}, planOf("1", "1", "1"), 37}, {"all for nothing, off first", []impl.Plant{plant(0, 9, 0, 0, 1), plant(0, 9, 0, 0, 1)}, []int64{0, 9, 10}, planOf("00", "01", "11"), 0},
		{"it could not go off again", []impl.Plant{plant(5, 20, 1, 10, 3), plant(0, 20, 9, 0, 1)}, []int64{5, 5, 0}, planOf("01", "01", "00"), 90}, {"too dear to begin", []impl.Plant{plant(0, 20, 1, 1000, 1), plant(0, 20, 2, 0, 1)}, []int64{20, 20}, planOf("01", "01"), 80}, {"dear to begin, but it lasts", []impl.Plant{plant(0, 20, 1, 39, 1), plant(0, 20, 2, 0, 1)}, []int64{20, 20}, planOf("10", "10"), 79}, {"as cheap: the other one", []impl.Plant{plant(0, 20, 1, 40, 1), plant(0, 20, 2, 0, 1)}, []int64{20, 20}, planOf("01", "01"), 80},
		{"on early at the same cost is later", []impl.Plant{plant(0, 20, 1, 40, 1)}, []int64{0, 20}, planOf("0", "1"), 60},
		{"no loads", p, nil, nil, -1}, {"one", p, []int64{0}, planOf("00"), 0}, {"6 loads", p, make([]int64, 6), nil, -1}, {"a load at -1", p, []int64{0, -1}, nil, -1}, {"a load beyond", p, []int64{300001}, nil, -1}, {"machines that are not right", []impl.Plant{plant(0, 10, 0, 0, 11)}, []int64{0}, nil, -1},
	} {
		plan, cost := bests(t, c.plants, c.loads)
		if cost != c.cost || !samePlan(plan, c.plan) {
			t.Error(c.name, plan, cost)
		}
	}
}

func TestP24FloorTold(t *testing.T) {
	p := twoPlants()
	for _, c := range []struct {
		name   string
		plants []impl.Plant
		loads  []int64
		floor  int64
	}{
		{"the cheap one first", p, []int64{60, 0}, 340}, {"no Least is asked", p, []int64{5}, 25}, {"just what all can", p, []int64{80}, 520}, {"one more", p, []int64{81}, -1}, {"one more in the last", p, []int64{0, 80, 81}, -1}, {"nothing asked", p, []int64{0, 0, 0, 0, 0}, 0},
		{"two of one Cost", []impl.Plant{plant(0, 10, 5, 0, 1), plant(0, 10, 5, 0, 1)}, []int64{15}, 75}, {"a later one is cheaper", []impl.Plant{plant(0, 10, 5, 0, 1), plant(9, 10, 2, 0, 1), plant(0, 10, 3, 0, 1)}, []int64{25, 3}, 81},
		{"all for nothing", []impl.Plant{plant(0, 10, 0, 99, 1)}, []int64{10}, 0}, {"a Start is not asked", []impl.Plant{plant(0, 10, 1, 99, 1)}, []int64{10, 0, 10}, 20},
		{"no loads", p, nil, -1}, {"6 loads", p, make([]int64, 6), -1}, {"a load at -1", p, []int64{-1}, -1}, {"a load beyond", []impl.Plant{plant(0, 100000, 1, 0, 1), plant(0, 100000, 1, 0, 1), plant(0, 100000, 1, 0, 1)}, []int64{300001}, -1}, {"a load of 300000", []impl.Plant{plant(0, 100000, 1, 0, 1), plant(0, 100000, 1, 0, 1), plant(0, 100000, 1, 0, 1)}, []int64{300000}, 300000},
		{"all there can be", slices.Repeat([]impl.Plant{plant(0, 100000, 10000, 0, 1)}, 3), slices.Repeat([]int64{300000}, 5), 15000000000},
		{"a wrong Least", []impl.Plant{plant(-1, 10, 1, 0, 1)}, []int64{0}, -1}, {"a Least above Most", []impl.Plant{plant(11, 10, 1, 0, 1)}, []int64{0}, -1}, {"a wrong Start", []impl.Plant{plant(0, 10, 1, -1, 1)}, []int64{0}, -1}, {"a wrong Start beyond", []impl.Plant{plant(0, 10, 1, 100000001, 1)}, []int64{0}, -1}, {"a wrong Stay", []impl.Plant{plant(0, 10, 1, 0, 11)}, []int64{0}, -1}, {"none", nil, []int64{0}, -1},
	} {
		bests(t, c.plants, c.loads)
		if floor := impl.Floor(c.plants, c.loads); floor != c.floor {
			t.Error(c.name, floor)
		}
	}
}

// TestP24NoPlanIsCheaper goes through all plans of some machines: none costs less
// than the best one, none as much stands ahead of it, none is below the floor.
func TestP24NoPlanIsCheaper(t *testing.T) {
	for seed := range int64(200) {
		machines, periods := 1+int(seed%3), 1+int(seed%4)
		if seed%40 == 0 {
			machines, periods = 3, 5
		}
		plants := somePlants(seed, machines, 5+seed%20)
		loads := someNumbers(seed+3, periods, 0, 4+seed%30)
		best, least := bests(t, plants, loads)
		floor, seen := impl.Floor(plants, loads), false
		everyPlan(machines, periods, func(plan [][]bool) {
			cost := costs(t, plants, loads, plan)
			seen = seen || samePlan(plan, best)
			if cost < 0 {
				return
			}
			if least < 0 || cost < least || cost == least && !seen || cost < floor || floor < 0 {
				t.Error(plants, loads, plan, cost, best, least, floor)
			}
		})
	}
}

// TestP24SmallDispatch: all of two machines over three periods that are of few kinds.
func TestP24SmallDispatch(t *testing.T) {
	kinds := []impl.Plant{plant(0, 2, 1, 0, 1), plant(1, 2, 1, 1, 2), plant(2, 3, 2, 0, 3), plant(0, 3, 0, 4, 1), plant(0, 0, 3, 1, 2)}
	allSays(2, int64(len(kinds)), func(which []int64) {
		plants := []impl.Plant{kinds[which[0]], kinds[which[1]]}
		allSays(3, 6, func(loads []int64) {
			bests(t, plants, loads)
		})
	})
}

func TestP24MeteredTold(t *testing.T) {
	many := slices.Repeat([]impl.Reading{{From: 0, To: 99999}}, 300)
	for _, c := range []struct {
		name     string
		readings []impl.Reading
		loss     int64
		sum      int64
		left     int64
	}{
		{"no readings", nil, 15, 0, 0}, {"no readings, all lost", nil, 1000, 0, 0}, {"one that has gone round", []impl.Reading{{From: 99990, To: 10}}, 0, 20, 20}, {"just round", []impl.Reading{{From: 99999, To: 0}}, 0, 1, 1}, {"nearly all round", []impl.Reading{{From: 1, To: 0}}, 0, 99999, 99999}, {"one that stays", []impl.Reading{{From: 7, To: 7}}, 0, 0, 0}, {"one that stays at the end", []impl.Reading{{From: 99999, To: 99999}}, 5, 0, 0}, {"one that stays at 0", []impl.Reading{{}}, 5, 0, 0},
		{"two together", []impl.Reading{{From: 99990, To: 10}, {From: 0, To: 81}}, 15, 101, 100}, {"each by itself would lose less", []impl.Reading{{From: 0, To: 50}, {From: 0, To: 50}}, 15, 100, 99}, {"loss 0", []impl.Reading{{From: 0, To: 999}}, 0, 999, 999}, {"loss 1, just less", []impl.Reading{{From: 0, To: 999}}, 1, 999, 999}, {"loss 1, just one", []impl.Reading{{From: 0, To: 1000}}, 1, 1000, 999}, {"loss 999", []impl.Reading{{From: 0, To: 1}}, 999, 1, 1}, {"loss 1000", []impl.Reading{{From: 0, To: 1234}}, 1000, 1234, 0}, {"loss 1001", []impl.Reading{{From: 0, To: 1234}}, 1001, -1, -1}, {"loss -1", []impl.Reading{{From: 0, To: 1234}}, -1, -1, -1}, {"loss far off", nil, math.MaxInt64, -1, -1}, {"loss far below", nil, math.MinInt64, -1, -1},
		{"From at -1", []impl.Reading{{From: -1, To: 5}}, 0, -1, -1}, {"To at -1", []impl.Reading{{From: 5, To: -1}}, 0, -1, -1}, {"From at 0", []impl.Reading{{From: 0, To: 5}}, 0, 5, 5}, {"To at 0", []impl.Reading{{From: 5, To: 0}}, 0, 99995, 99995}, {"From at 99999", []impl.Reading{{From: 99999, To: 5}}, 0, 6, 6}, {"To at 99999", []impl.Reading{{From: 5, To: 99999}}, 0, 99994, 99994}, {"From at 100000", []impl.Reading{{From: 100000, To: 5}}, 0, -1, -1}, {"To at 100000", []impl.Reading{{From: 5, To: 100000}}, 0, -1, -1}, {"far off", []impl.Reading{{From: math.MinInt64, To: math.MaxInt64}}, 0, -1, -1}, {"the last is none", []impl.Reading{{From: 1, To: 2}, {From: 3, To: 100000}}, 0, -1, -1},
		{"300", many, 1, 29999700, 29969701}, {"300, all lost", many, 1000, 29999700, 0}, {"301", append(slices.Clone(many), impl.Reading{}), 1, -1, -1},
	} {
		if sum, left := meters(t, c.readings, c.loss); sum != c.sum || left != c.left {
			t.Error(c.name, sum, left)
		}
	}
	for seed := range int64(100) {
		picks := someNumbers(seed, int(seed%30)*2, 0, 99999)
		readings := []impl.Reading{}
		for i := 0; i < len(picks); i += 2 {
			readings = append(readings, impl.Reading{From: picks[i], To: picks[i+1]})
		}
		meters(t, readings, seed*11)
	}
}

func TestP24AnswersAreNew(t *testing.T) {
	plants, loads := twoPlants(), []int64{20, 20, 20}
	roomy := make([]impl.Plant, 2, 5)
	copy(roomy, plants)
	plan, cost := impl.Best(roomy, loads)
	if cost != 400 || !samePlan(plan, planOf("10", "10", "10")) {
		t.Fatal(plan, cost)
	}
	plan[0][1] = true
	if !slices.Equal(plan[1], []bool{true, false}) || !slices.Equal(plan[2], []bool{true, false}) {
		t.Error("two lists of one answer share", plan)
	}
	_ = append(plan[0], true)
	if !slices.Equal(plan[1], []bool{true, false}) {
		t.Error("two lists of one answer share their room", plan)
	}
	if again, cost := impl.Best(roomy, loads); cost != 400 || !samePlan(again, planOf("10", "10", "10")) {
		t.Error("something was kept", again, cost)
	}
	on := make([]bool, 2, 6)
	on[0] = true
	given, _ := impl.Merit(roomy, on, 20)
	given[0], given[1] = -1, -1
	impl.Floor(roomy, loads)
	impl.CostOf(roomy, loads, [][]bool{on, on, on})
	if !slices.Equal(roomy[:5], append(twoPlants(), make([]impl.Plant, 3)...)) || !slices.Equal(loads, []int64{20, 20, 20}) || !slices.Equal(on[:6], []bool{true, false, false, false, false, false}) {
		t.Error("an argument was written into", roomy[:5], loads, on[:6])
	}
}
