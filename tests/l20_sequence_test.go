package tests

import (
	"math"
	"slices"
	"testing"

	"loop.example/g00062/impl"
)

func TestP20Constants(t *testing.T) {
	if impl.MaxSteps != 40 || impl.MaxCycles != 1000 {
		t.Error("a limit")
	}
	if impl.ModeRun != -1 || impl.ModeStop != -2 || impl.ModeTrip != -3 {
		t.Error("a mode")
	}
}

// step waits for signal 0, and does what tells its limit and where it leads on.
func step(limit int64, next int64, other int64) impl.Step {
	return impl.Step{Do: (limit*31 + next*7 + other + 100) % 1000, Limit: limit, Next: next, Else: other}
}

func stand(at int64, timer int64) impl.Stand {
	return impl.Stand{At: at, Timer: timer}
}

func tick(signals int64) impl.Tick {
	return impl.Tick{Signals: signals}
}

func holding(signals int64) impl.Tick {
	return impl.Tick{Signals: signals, Hold: true}
}

func isOneMode(at int64) bool {
	return at == -1 || at == -2 || at == -3
}

func wantPlan(plan []impl.Step) bool {
	for i, s := range plan {
		if s.Do < 0 || s.Do > 999 || s.Until < 0 || s.Until > 15 || s.Limit < 1 || s.Limit > 1000 {
			return false
		}
		for _, to := range []int64{s.Next, s.Else} {
			if !isOneMode(to) && (to <= int64(i) || to >= int64(len(plan))) {
				return false
			}
		}
	}
	return len(plan) > 0 && len(plan) < 41
}

// allWays are all lists of places from one to a mode, the mode behind them; it
// wants a right plan in which there are not too many.
func allWays(plan []impl.Step, from int64) [][]int64 {
	if isOneMode(from) {
		return [][]int64{{from}}
	}
	ways := [][]int64{}
	for _, to := range []int64{plan[from].Next, plan[from].Else} {
		for _, way := range allWays(plan, to) {
			ways = append(ways, append([]int64{from}, way...))
		}
	}
	return ways
}

func limitsAlong(plan []impl.Step, way []int64) int64 {
	sum := int64(0)
	for _, place := range way[:len(way)-1] {
		sum += plan[place].Limit
	}
	return sum
}

func wantBound(plan []impl.Step) int64 {
	if !wantPlan(plan) {
		return -1
	}
	most := int64(0)
	for _, way := range allWays(plan, 0) {
		most = max(most, limitsAlong(plan, way))
	}
	return most
}

func wantEnds(plan []impl.Step, from int64) []int64 {
	if !wantPlan(plan) || from < 0 || from >= int64(len(plan)) {
		return nil
	}
	ends := []int64{}
	for mode := int64(-3); mode <= -1; mode++ {
		for _, way := range allWays(plan, from) {
			if way[len(way)-1] == mode && !slices.Contains(ends, mode) {
				ends = append(ends, mode)
			}
		}
	}
	return ends
}

func wantShortest(plan []impl.Step, mode int64) []int64 {
	if !wantPlan(plan) || !isOneMode(mode) {
		return nil
	}
	leading := [][]int64{}
	for _, way := range allWays(plan, 0) {
		if way[len(way)-1] == mode {
			leading = append(leading, way[:len(way)-1])
		}
	}
	if len(leading) == 0 {
		return nil
	}
	return slices.MinFunc(leading, func(a, b []int64) int {
		if len(a) != len(b) {
			return len(a) - len(b)
		}
		return slices.Compare(a, b)
	})
}

func wantStand(plan []impl.Step, s impl.Stand) bool {
	for i, p := range plan {
		if s.At == int64(i) {
			return s.Timer >= 0 && s.Timer < p.Limit
		}
	}
	return isOneMode(s.At) && s.Timer == 0
}

func wantSeqStep(plan []impl.Step, s impl.Stand, t impl.Tick) (impl.Stand, bool) {
	if !wantPlan(plan) || !wantStand(plan, s) || t.Signals < 0 || t.Signals > 65535 {
		return impl.Stand{}, false
	}
	if s.At < 0 {
		return s, true
	}
	p := plan[s.At]
	bits := flagsOf(int(t.Signals), 16)
	if bits[p.Until] {
		return stand(p.Next, 0), true
	}
	if !t.Hold {
		s.Timer++
	}
	if s.Timer == p.Limit {
		return stand(p.Else, 0), true
	}
	return s, true
}

func wantSeqRun(plan []impl.Step, list []impl.Tick) ([]int64, impl.Stand, bool) {
	if !wantPlan(plan) || len(list) > 1000 {
		return nil, impl.Stand{}, false
	}
	does, s := []int64{}, impl.Stand{}
	for _, t := range list {
		if s.At < 0 {
			does = append(does, s.At)
		} else {
			does = append(does, plan[s.At].Do)
		}
		next, ok := wantSeqStep(plan, s, t)
		if !ok {
			return nil, impl.Stand{}, false
		}
		s = next
	}
	return does, s, true
}

// planned holds all that is said of a plan without ticks against what is wanted.
func planned(t *testing.T, plan []impl.Step) bool {
	t.Helper()
	kept, right := slices.Clone(plan), wantPlan(plan)
	if ok := impl.PlanOk(plan); ok != right {
		t.Error("right", plan, ok, right)
	}
	if n := impl.Bound(plan); n != wantBound(plan) {
		t.Error("bound", plan, n, wantBound(plan))
	}
	for from := int64(-4); from <= int64(len(plan))+1; from++ {
		if ends := impl.Ends(plan, from); !slices.Equal(ends, wantEnds(plan, from)) {
			t.Error("ends", plan, from, ends, wantEnds(plan, from))
		}
	}
	for mode := int64(-5); mode <= int64(len(plan)); mode++ {
		if way := impl.Shortest(plan, mode); !slices.Equal(way, wantShortest(plan, mode)) {
			t.Error("shortest", plan, mode, way, wantShortest(plan, mode))
		}
	}
	if !slices.Equal(plan, kept) {
		t.Error("written into", plan)
	}
	return right
}

func sequenced(t *testing.T, plan []impl.Step, s impl.Stand, seen impl.Tick) (impl.Stand, bool) {
	t.Helper()
	kept := slices.Clone(plan)
	next, ok := impl.SeqStep(plan, s, seen)
	if want, may := wantSeqStep(plan, s, seen); next != want || ok != may {
		t.Error(plan, s, seen, next, ok, want, may)
	}
	if !slices.Equal(plan, kept) {
		t.Error("written into", plan)
	}
	return next, ok
}

func seqRuns(t *testing.T, plan []impl.Step, list []impl.Tick) ([]int64, impl.Stand, bool) {
	t.Helper()
	kept, ticks := slices.Clone(plan), slices.Clone(list)
	does, s, ok := impl.SeqRun(plan, list)
	if want, at, may := wantSeqRun(plan, list); !slices.Equal(does, want) || s != at || ok != may {
		t.Error(plan, list, does, s, ok, want, at, may)
	}
	if !slices.Equal(plan, kept) || !slices.Equal(list, ticks) {
		t.Error("written into", plan, list)
	}
	return does, s, ok
}

// straight has n steps, each of which leads to the next one either way.
func straight(n int, limit int64) []impl.Step {
	plan := []impl.Step{}
	for i := 1; i <= n; i++ {
		to := int64(i)
		if i == n {
			to = -1
		}
		plan = append(plan, step(limit, to, to))
	}
	return plan
}

func TestP20PlanSizes(t *testing.T) {
	for _, n := range []int{0, 1, 2, 39, 40, 41, 100} {
		plan, right := straight(n, 1000), n >= 1 && n <= 40
		if ok := impl.PlanOk(plan); ok != right {
			t.Error(n, ok)
		}
		bound, ends, way := impl.Bound(plan), impl.Ends(plan, 0), impl.Shortest(plan, -1)
		if right && (bound != int64(n)*1000 || !slices.Equal(ends, []int64{-1}) || len(way) != n) {
			t.Error(n, bound, ends, way)
		}
		if !right && (bound != -1 || len(ends) != 0 || len(way) != 0) {
			t.Error(n, bound, ends, way)
		}
		_, stepped := impl.SeqStep(plan, stand(-1, 0), tick(0))
		if _, _, ran := impl.SeqRun(plan, nil); ran != right || stepped != right {
			t.Error(n, stepped, ran)
		}
	}
}

// TestP20PlanFields changes one field of the step in the midst of a right plan.
func TestP20PlanFields(t *testing.T) {
	for _, c := range []struct {
		name   string
		change func(*impl.Step, int64)
		right  []int64
		wrong  []int64
	}{
		{"Do", func(s *impl.Step, n int64) { s.Do = n }, []int64{0, 1, 998, 999}, []int64{-1, 1000, math.MinInt64, math.MaxInt64}},
		{"Until", func(s *impl.Step, n int64) { s.Until = n }, []int64{0, 1, 14, 15}, []int64{-1, 16, math.MinInt64, math.MaxInt64}},
		{"Limit", func(s *impl.Step, n int64) { s.Limit = n }, []int64{1, 2, 999, 1000}, []int64{0, -1, 1001, math.MinInt64, math.MaxInt64}},
		{"Next", func(s *impl.Step, n int64) { s.Next = n }, []int64{-3, -2, -1, 2, 3}, []int64{-4, 0, 1, 4, 5, 40, math.MinInt64, math.MaxInt64}},
		{"Else", func(s *impl.Step, n int64) { s.Else = n }, []int64{-3, -2, -1, 2, 3}, []int64{-4, 0, 1, 4, 5, 40, math.MinInt64, math.MaxInt64}},
	} {
		for _, n := range append(slices.Clone(c.right), c.wrong...) {
			plan := straight(4, 3)
			c.change(&plan[1], n)
			if ok := planned(t, plan); ok != slices.Contains(c.right, n) {
				t.Error(c.name, n, ok)
			}
			sequenced(t, plan, stand(0, 0), tick(1))
			sequenced(t, plan, stand(1, 0), tick(0))
			seqRuns(t, plan, []impl.Tick{tick(0), tick(1), tick(1), tick(1)})
		}
	}
	for _, to := range []int64{-4, -3, -2, -1, 0, 1, 2, 3, 4} {
		last, first := straight(4, 3), straight(4, 3)
		last[3].Next, first[0].Else = to, to
		if ok := planned(t, last); ok != isOneMode(to) {
			t.Error("the last one leads to", to, ok)
		}
		if ok := planned(t, first); ok != (to != -4 && to != 0 && to != 4) {
			t.Error("the first one leads to", to, ok)
		}
	}
}

// TestP20SmallPlans goes through all plans of up to 3 steps, with limits of 1 and 2.
func TestP20SmallPlans(t *testing.T) {
	for n := 1; n <= 3; n++ {
		leads := 1
		for i := range n {
			leads *= (3 + i) * (3 + i) * 2
		}
		for seed := range leads {
			plan, pick := make([]impl.Step, n), seed
			for i := n - 1; i >= 0; i-- {
				ways := 3 + n - 1 - i
				next, other := leadFrom(pick%ways, i), leadFrom(pick/ways%ways, i)
				pick /= ways * ways
				plan[i] = step(int64(1+pick%2), next, other)
				pick /= 2
			}
			if !planned(t, plan) {
				t.Fatal(plan)
			}
			endsInTime(t, plan, int64(seed))
			shortestLeads(t, plan)
		}
	}
}

// leadFrom takes 0 .. 2 for the modes, more for the places behind place.
func leadFrom(pick int, place int) int64 {
	if pick < 3 {
		return int64(pick) - 3
	}
	return int64(place + pick - 2)
}

func somePlan(seed int64, n int, limit int64) []impl.Step {
	plan, picks := []impl.Step{}, someNumbers(seed, 5*n, 0, 1000000)
	for i := range n {
		p := picks[5*i : 5*i+5]
		ways := int64(3 + n - 1 - i)
		s := step(1+p[0]%limit, leadFrom(int(p[1]%ways), i), leadFrom(int(p[2]%ways), i))
		s.Do, s.Until = p[3]%1000, p[4]%16
		plan = append(plan, s)
	}
	return plan
}

func someTicks(seed int64, n int, holds bool) []impl.Tick {
	list, picks := []impl.Tick{}, someNumbers(seed, 2*n, 0, 65535)
	for i := range n {
		t := tick(picks[2*i] & picks[2*i+1])
		t.Hold = holds && picks[2*i+1]%3 == 0
		list = append(list, t)
	}
	return list
}

// endsInTime: whatever comes, it ends in one of its modes as soon as its bound is
// over, ticks that hold not being counted.
func endsInTime(t *testing.T, plan []impl.Step, seed int64) {
	t.Helper()
	bound, ends := impl.Bound(plan), impl.Ends(plan, 0)
	for _, kind := range []string{"silent", "all", "some", "held"} {
		list := make([]impl.Tick, bound)
		switch kind {
		case "all":
			list = slices.Repeat([]impl.Tick{tick(65535)}, int(bound))
		case "some":
			list = someTicks(seed, int(bound), false)
		case "held":
			list = []impl.Tick{}
			for _, seen := range someTicks(seed, int(bound), false) {
				list = append(list, holding(0), seen, holding(0))
			}
		}
		s := impl.Stand{}
		for _, seen := range list {
			s, _ = impl.SeqStep(plan, s, seen)
		}
		if !isOneMode(s.At) || s.Timer != 0 || !slices.Contains(ends, s.At) {
			t.Error(kind, plan, bound, ends, s)
		}
	}
}

// shortestLeads goes along what Shortest tells by ticks, and comes to the mode.
func shortestLeads(t *testing.T, plan []impl.Step) {
	t.Helper()
	ends := impl.Ends(plan, 0)
	for mode := int64(-3); mode <= -1; mode++ {
		way := impl.Shortest(plan, mode)
		if (len(way) > 0) != slices.Contains(ends, mode) {
			t.Error(plan, mode, way, ends)
		}
		if len(way) == 0 {
			continue
		}
		list, does := []impl.Tick{}, []int64{}
		for i, place := range way {
			p, to := plan[place], append(way[1:], mode)[i]
			many := int64(1)
			seen := tick(1 << p.Until)
			if p.Next != to {
				many, seen = p.Limit, tick(65535-1<<p.Until)
			}
			list = append(list, slices.Repeat([]impl.Tick{seen}, int(many))...)
			does = append(does, slices.Repeat([]int64{p.Do}, int(many))...)
		}
		did, s, ok := impl.SeqRun(plan, list)
		if !ok || s != stand(mode, 0) || !slices.Equal(did, does) {
			t.Error(plan, mode, way, did, does, s, ok)
		}
	}
}

func TestP20SomePlans(t *testing.T) {
	for seed := range int64(400) {
		plan := somePlan(seed, 1+int(seed%12), 9)
		if !planned(t, plan) {
			t.Fatal(plan)
		}
		endsInTime(t, plan, seed)
		shortestLeads(t, plan)
		seqRuns(t, plan, someTicks(seed, int(seed%90), true))
		if seed%4 == 0 {
			plan[seed%int64(len(plan))].Next = seed%3 - 5
			planned(t, plan)
			seqRuns(t, plan, someTicks(seed, 5, true))
		}
	}
}

// TestP20LongPlans: more ways than could be gone through one by one.
func TestP20LongPlans(t *testing.T) {
	for seed := range int64(30) {
		plan := somePlan(seed, 40, 20)
		for i := range plan[:38] {
			plan[i].Next, plan[i].Else = int64(i)+1, int64(i)+1+seed%2
		}
		plan[39].Next, plan[39].Else, plan[38].Else = -1, -3, -1
		if !impl.PlanOk(plan) {
			t.Fatal(plan)
		}
		endsInTime(t, plan, seed)
		shortestLeads(t, plan)
		sum := int64(0)
		for _, s := range plan {
			sum += s.Limit
		}
		if n := impl.Bound(plan); plan[38].Next == 39 && n != sum {
			t.Error(plan, n, sum)
		}
	}
	two := straight(40, 1)
	for i := range two[:38] {
		two[i].Else = int64(i) + 2
	}
	two[38].Else = -2
	if way := impl.Shortest(two, -1); len(way) != 21 || !slices.Equal(way[:3], []int64{0, 1, 3}) || way[20] != 39 {
		t.Error(way)
	}
	if way := impl.Shortest(two, -2); len(way) != 20 || way[1] != 2 || way[19] != 38 {
		t.Error(way)
	}
	if n := impl.Bound(two); n != 40 {
		t.Error(n)
	}
}

func TestP20BoundTold(t *testing.T) {
	for _, c := range []struct {
		plan  []impl.Step
		bound int64
	}{
		{nil, -1}, {[]impl.Step{step(1, -1, -1)}, 1}, {[]impl.Step{step(1000, -1, -3)}, 1000}, {[]impl.Step{step(0, -1, -1)}, -1},
		{[]impl.Step{step(3, 1, -2), step(2, -1, 2), step(4, -1, -3)}, 9},
		{[]impl.Step{step(3, 1, 2), step(2, -1, -1), step(4, -1, -3)}, 7},
		{[]impl.Step{step(3, 2, 1), step(9, -1, -1), step(4, -1, -3)}, 12},
		{[]impl.Step{step(5, -1, -2), step(1000, -1, -1)}, 5},
		{[]impl.Step{step(5, -1, 1), step(1000, -1, -1)}, 1005},
		{[]impl.Step{step(5, 1, -1), step(1000, -1, -1)}, 1005},
	} {
		planned(t, c.plan)
		if n := impl.Bound(c.plan); n != c.bound {
			t.Error(c.plan, n, c.bound)
		}
	}
}

func TestP20EndsTold(t *testing.T) {
	plan := []impl.Step{step(3, 1, -2), step(2, -1, 2), step(4, -1, -3), step(1, -2, -2)}
	for _, c := range []struct {
		from int64
		ends []int64
	}{
		{0, []int64{-3, -2, -1}}, {1, []int64{-3, -1}}, {2, []int64{-3, -1}}, {3, []int64{-2}},
		{-1, nil}, {-2, nil}, {-4, nil}, {4, nil}, {5, nil}, {math.MinInt64, nil}, {math.MaxInt64, nil},
	} {
		if ends := impl.Ends(plan, c.from); !slices.Equal(ends, c.ends) {
			t.Error(c.from, ends, c.ends)
		}
	}
	if ends := impl.Ends(append(plan, step(1, 0, 0)), 0); len(ends) != 0 {
		t.Error("not right", ends)
	}
}

func TestP20ShortestTold(t *testing.T) {
	for _, c := range []struct {
		name string
		plan []impl.Step
		mode int64
		way  []int64
	}{
		{"at once", []impl.Step{step(1, -1, -2)}, -1, []int64{0}}, {"at once by Else", []impl.Step{step(1, -1, -2)}, -2, []int64{0}},
		{"no way comes to it", []impl.Step{step(1, -1, -2)}, -3, nil},
		{"no mode", []impl.Step{step(1, -1, -2)}, -4, nil}, {"a place", []impl.Step{step(1, -1, -2)}, 0, nil}, {"a later place", straight(2, 1), 1, nil},
		{"far off", straight(2, 1), math.MinInt64, nil}, {"far off", straight(2, 1), math.MaxInt64, nil},
		{"no plan", nil, -1, nil}, {"a plan that is not right", []impl.Step{step(0, -1, -1)}, -1, nil},
		{"two of one length, by Next the lesser", []impl.Step{step(1, 1, 2), step(1, -1, -2), step(1, -1, -3)}, -1, []int64{0, 1}},
		{"two of one length, by Else the lesser", []impl.Step{step(1, 2, 1), step(1, -1, -2), step(1, -1, -3)}, -1, []int64{0, 1}},
		{"the only one of this mode", []impl.Step{step(1, 1, 2), step(1, -1, -2), step(1, -1, -3)}, -3, []int64{0, 2}},
		{"a longer one with lesser places", []impl.Step{step(1, 1, 3), step(1, 2, 2), step(1, -1, -1), step(1, -1, -2)}, -1, []int64{0, 3}},
		{"a longer one by Else with lesser places", []impl.Step{step(1, 3, 1), step(1, 2, 2), step(1, -1, -1), step(1, -2, -1)}, -1, []int64{0, 3}},
		{"a later place unlike", []impl.Step{step(1, 1, 2), step(1, 4, 4), step(1, 3, 3), step(1, -1, -1), step(1, -1, -1)}, -1, []int64{0, 1, 4}},
		{"a sum of limits is not asked", []impl.Step{step(1000, -3, 1), step(1, -3, -3)}, -3, []int64{0}},
		{"both to one place", straight(3, 1), -1, []int64{0, 1, 2}},
	} {
		planned(t, c.plan)
		if way := impl.Shortest(c.plan, c.mode); !slices.Equal(way, c.way) {
			t.Error(c.name, c.plan, c.mode, way, c.way)
		}
	}
}

func TestP20StepTold(t *testing.T) {
	plan := []impl.Step{{Do: 7, Until: 0, Limit: 3, Next: 1, Else: -2}, {Do: 8, Until: 15, Limit: 1, Next: -1, Else: 2}, {Do: 9, Until: 4, Limit: 1000, Next: -1, Else: -3}}
	for _, c := range []struct {
		s    impl.Stand
		t    impl.Tick
		next impl.Stand
	}{
		{stand(0, 0), tick(0), stand(0, 1)}, {stand(0, 1), tick(0), stand(0, 2)}, {stand(0, 2), tick(0), stand(-2, 0)},
		{stand(0, 0), tick(1), stand(1, 0)}, {stand(0, 2), tick(1), stand(1, 0)}, {stand(0, 2), tick(65535), stand(1, 0)}, {stand(0, 2), tick(65534), stand(-2, 0)},
		{stand(0, 0), holding(0), stand(0, 0)}, {stand(0, 2), holding(0), stand(0, 2)}, {stand(0, 2), holding(65534), stand(0, 2)},
		{stand(0, 2), holding(1), stand(1, 0)}, {stand(0, 1), holding(65535), stand(1, 0)},
		{stand(1, 0), tick(0), stand(2, 0)}, {stand(1, 0), tick(32767), stand(2, 0)}, {stand(1, 0), tick(32768), stand(-1, 0)}, {stand(1, 0), holding(0), stand(1, 0)},
		{stand(2, 998), tick(0), stand(2, 999)}, {stand(2, 999), tick(0), stand(-3, 0)}, {stand(2, 999), holding(0), stand(2, 999)}, {stand(2, 999), tick(16), stand(-1, 0)}, {stand(2, 0), tick(65519), stand(2, 1)},
		{stand(-1, 0), tick(0), stand(-1, 0)}, {stand(-2, 0), tick(65535), stand(-2, 0)}, {stand(-3, 0), holding(1), stand(-3, 0)},
	} {
		if next, ok := sequenced(t, plan, c.s, c.t); !ok || next != c.next {
			t.Error(c.s, c.t, next, ok, c.next)
		}
	}
	for _, s := range []impl.Stand{
		stand(0, -1), stand(0, 3), stand(0, 4), stand(1, 1), stand(1, -1), stand(2, 1000), stand(2, math.MaxInt64), stand(2, math.MinInt64), stand(3, 0), stand(4, 0),
		stand(-1, 1), stand(-1, -1), stand(-2, 1), stand(-3, 1), stand(-3, math.MinInt64), stand(-4, 0), stand(-5, 0), stand(math.MinInt64, 0), stand(math.MaxInt64, 0),
	} {
		for _, seen := range []impl.Tick{tick(0), tick(1), holding(0), holding(65535)} {
			if next, ok := sequenced(t, plan, s, seen); ok || next != (impl.Stand{}) {
				t.Error(s, seen, next, ok)
			}
		}
	}
}

func TestP20Signals(t *testing.T) {
	plan := []impl.Step{step(3, -1, -2)}
	for _, n := range []int64{0, 1, 65534, 65535, -1, 65536, 65537, -65536, math.MinInt64, math.MaxInt64} {
		right := n >= 0 && n <= 65535
		for _, s := range []impl.Stand{stand(0, 0), stand(0, 2), stand(-1, 0), stand(-3, 0)} {
			for _, seen := range []impl.Tick{tick(n), holding(n)} {
				if next, ok := sequenced(t, plan, s, seen); ok != right || !ok && next != (impl.Stand{}) {
					t.Error(n, s, next, ok)
				}
			}
		}
	}
	for until := range int64(16) {
		plan[0].Until = until
		for signal := range int64(16) {
			next, ok := sequenced(t, plan, stand(0, 0), tick(1<<signal))
			if !ok || (next == stand(-1, 0)) != (until == signal) {
				t.Error(until, signal, next, ok)
			}
		}
	}
}

func TestP20RunTold(t *testing.T) {
	plan := []impl.Step{{Do: 7, Until: 0, Limit: 3, Next: 1, Else: -2}, {Do: 8, Until: 1, Limit: 2, Next: -1, Else: 2}, {Do: 9, Until: 2, Limit: 4, Next: -1, Else: -3}}
	for _, c := range []struct {
		name string
		list []impl.Tick
		does []int64
		s    impl.Stand
		ok   bool
	}{
		{"none", nil, nil, stand(0, 0), true},
		{"one", []impl.Tick{tick(0)}, []int64{7}, stand(0, 1), true},
		{"stops", []impl.Tick{tick(0), tick(2), tick(4), tick(1)}, []int64{7, 7, 7, -2}, stand(-2, 0), true},
		{"runs", []impl.Tick{tick(1), tick(2)}, []int64{7, 8}, stand(-1, 0), true},
		{"holds", []impl.Tick{holding(0), holding(0), holding(0), holding(0), tick(0)}, []int64{7, 7, 7, 7, 7}, stand(0, 1), true},
		{"trips", []impl.Tick{tick(1), tick(0), tick(0), tick(0), tick(0), tick(0), tick(0), tick(7)}, []int64{7, 8, 8, 9, 9, 9, 9, -3}, stand(-3, 0), true},
		{"refused at first", []impl.Tick{tick(-1), tick(0)}, nil, impl.Stand{}, false},
		{"refused in the midst", []impl.Tick{tick(1), tick(65536), tick(0)}, nil, impl.Stand{}, false},
		{"refused at last", []impl.Tick{tick(1), tick(0), tick(-1)}, nil, impl.Stand{}, false},
		{"refused behind the end", []impl.Tick{tick(1), tick(2), tick(0), tick(65536)}, nil, impl.Stand{}, false},
		{"refused with Hold behind the end", []impl.Tick{tick(1), tick(2), holding(-1), tick(0)}, nil, impl.Stand{}, false},
	} {
		if does, s, ok := seqRuns(t, plan, c.list); ok != c.ok || s != c.s || !slices.Equal(does, c.does) {
			t.Error(c.name, does, s, ok)
		}
	}
	for _, n := range []int{999, 1000, 1001, 5000} {
		does, s, ok := seqRuns(t, plan, make([]impl.Tick, n))
		if ok != (n <= 1000) || ok && (len(does) != n || s != stand(-2, 0)) || !ok && (len(does) != 0 || s != stand(0, 0)) {
			t.Error(n, len(does), s, ok)
		}
	}
}

// TestP20RunIsSteps: a run is one step behind the other.
func TestP20RunIsSteps(t *testing.T) {
	for seed := range int64(80) {
		plan, list := somePlan(seed, 1+int(seed%40), 6), someTicks(seed, 60, true)
		does, end, ok := seqRuns(t, plan, list)
		s := impl.Stand{}
		for i, seen := range list {
			want := s.At
			if s.At >= 0 {
				want = plan[s.At].Do
			}
			if does[i] != want {
				t.Fatal(seed, i, does, want)
			}
			s, _ = sequenced(t, plan, s, seen)
		}
		if !ok || s != end {
			t.Error(seed, s, end, ok)
		}
	}
}

// TestP20AnswersAreNew writes into what was answered and asks again; what lies behind an argument stays.
func TestP20AnswersAreNew(t *testing.T) {
	room := []impl.Step{step(3, 1, -2), step(2, -1, -3), step(77, 77, 77)}
	plan, list := room[:2], []impl.Tick{tick(1), tick(77)}[:1]
	impl.Ends(plan, 0)[0] = 9
	impl.Ends(plan, 1)[1] = 9
	impl.Shortest(plan, -3)[0] = 9
	does, _, _ := impl.SeqRun(plan, list)
	does[0] = 9
	if !slices.Equal(impl.Ends(plan, 0), []int64{-3, -2, -1}) || !slices.Equal(impl.Ends(plan, 1), []int64{-3, -1}) || !slices.Equal(impl.Shortest(plan, -3), []int64{0, 1}) {
		t.Error("kept from a call to another one")
	}
	if impl.Bound(plan) != 5 || room[2] != step(77, 77, 77) || list[:2][1] != tick(77) || list[0] != tick(1) {
		t.Error("written into", room, list)
	}
}
