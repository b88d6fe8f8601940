package tests

import (
	"fmt"
	"math"
	"slices"
	"testing"

	"loop.example/g00062/impl"
)

func TestP25Constants(t *testing.T) {
	if impl.MaxLimits != 60 || impl.MaxJobs != 40 {
		t.Error("a limit")
	}
	if impl.LmEnter != 1 || impl.LmLeave != 2 || impl.LmLate != 3 {
		t.Error("what is told")
	}
}

func limit(modes int64, allowed int64) impl.Limit {
	return impl.Limit{Modes: modes, Allowed: allowed}
}

func clock(runs int64, late bool) impl.Clock {
	return impl.Clock{Runs: runs, Late: late}
}

// stopped are n clocks that do not run.
func stopped(n int) []impl.Clock {
	return slices.Repeat([]impl.Clock{clock(-1, false)}, n)
}

func job(time int64, after ...int64) impl.Job {
	return impl.Job{Time: time, After: after}
}

func jobsCopy(jobs []impl.Job) []impl.Job {
	out := []impl.Job{}
	for _, j := range jobs {
		out = append(out, job(j.Time, slices.Clone(j.After)...))
	}
	return out
}

func sameJobs(a []impl.Job, b []impl.Job) bool {
	return slices.EqualFunc(a, b, func(x impl.Job, y impl.Job) bool { return x.Time == y.Time && slices.Equal(x.After, y.After) })
}

func wantClocksOk(limits []impl.Limit, clocks []impl.Clock) bool {
	if len(limits) > 60 || len(limits) != len(clocks) {
		return false
	}
	for i, l := range limits {
		if l.Modes < 0 || l.Modes > 255 || l.Allowed < 1 || l.Allowed > 10000 {
			return false
		}
		switch c := clocks[i]; {
		case c.Runs == l.Allowed:
			if !c.Late {
				return false
			}
		case c.Runs < -1 || c.Runs > l.Allowed || c.Late:
			return false
		}
	}
	return true
}

// wantClock tells 0 where nothing is told; it wants a right clock.
func wantClock(l impl.Limit, c impl.Clock, counts bool) (impl.Clock, int64) {
	ran := c.Runs >= 0
	if !counts && ran {
		return clock(-1, false), 2
	}
	if !counts {
		return clock(-1, false), 0
	}
	if !ran {
		return clock(0, false), 1
	}
	if c.Late {
		return c, 0
	}
	if c.Runs == l.Allowed-1 {
		return clock(l.Allowed, true), 3
	}
	return clock(c.Runs+1, false), 0
}

func wantClockStep(limits []impl.Limit, clocks []impl.Clock, mode int64, broken []bool) ([]impl.Clock, []impl.Note, bool) {
	if !wantClocksOk(limits, clocks) || mode < 0 || mode > 7 || len(broken) != len(limits) {
		return nil, nil, false
	}
	next, notes := []impl.Clock{}, []impl.Note{}
	for i, l := range limits {
		c, what := wantClock(l, clocks[i], broken[i] && flagsOf(int(l.Modes), 8)[mode])
		next = append(next, c)
		if what != 0 {
			notes = append(notes, impl.Note{Place: int64(i), What: what})
		}
	}
	return next, notes, true
}

// wantSoonest lets all go on counting and looks for the first tick at which one is late.
func wantSoonest(limits []impl.Limit, clocks []impl.Clock) int64 {
	if !wantClocksOk(limits, clocks) {
		return -1
	}
	for ticks := int64(1); ticks <= 10000; ticks++ {
		for i, c := range clocks {
			if c.Runs >= 0 && !c.Late && c.Runs+ticks == limits[i].Allowed {
				return ticks
			}
		}
	}
	return -1
}

// ticks holds one step of clocks against what is wanted.
func ticks(t *testing.T, limits []impl.Limit, clocks []impl.Clock, mode int64, broken []bool) ([]impl.Clock, []impl.Note, bool) {
	t.Helper()
	kept, keptClocks, keptBroken := slices.Clone(limits), slices.Clone(clocks), slices.Clone(broken)
	next, notes, ok := impl.ClockStep(limits, clocks, mode, broken)
	want, tells, may := wantClockStep(limits, clocks, mode, broken)
	if ok != may || !slices.Equal(next, want) || !slices.Equal(notes, tells) {
		t.Error(limits, clocks, mode, broken, next, notes, ok, want, tells, may)
	}
	if !ok && (len(next) != 0 || len(notes) != 0) {
		t.Error("refused, and not nothing", next, notes)
	}
	if ok && !wantClocksOk(limits, next) {
		t.Error("not right any more", limits, next)
	}
	if !slices.Equal(limits, kept) || !slices.Equal(clocks, keptClocks) || !slices.Equal(broken, keptBroken) {
		t.Error("written into", limits, clocks, broken)
	}
	return next, notes, ok
}

func soonest(t *testing.T, limits []impl.Limit, clocks []impl.Clock) int64 {
	t.Helper()
	kept, keptClocks := slices.Clone(limits), slices.Clone(clocks)
	n := impl.SoonestLate(limits, clocks)
	if want := wantSoonest(limits, clocks); n != want {
		t.Error("soonest", limits, clocks, n, want)
	}
	if !slices.Equal(limits, kept) || !slices.Equal(clocks, keptClocks) {
		t.Error("written into", limits, clocks)
	}
	return n
}

func TestP25ClockSizes(t *testing.T) {
	for _, n := range []int{0, 1, 2, 59, 60, 61, 100} {
		limits := slices.Repeat([]impl.Limit{limit(1, 3)}, n)
		for _, many := range []int{n - 1, n, n + 1} {
			if many < 0 {
				continue
			}
			right := n <= 60 && many == n
			if _, _, ok := ticks(t, limits, stopped(many), 0, make([]bool, n)); ok != right {
				t.Error("clocks", n, many, ok)
			}
			if _, _, ok := ticks(t, limits, stopped(n), 0, make([]bool, many)); ok != right {
				t.Error("broken", n, many, ok)
			}
			clocks := slices.Repeat([]impl.Clock{clock(1, false)}, many)
			if left := soonest(t, limits, clocks); (left == 2) != (right && n > 0) || left != 2 && left != -1 {
				t.Error("soonest", n, many, left)
			}
		}
	}
	if next, notes, ok := impl.ClockStep(nil, nil, 7, nil); !ok || len(next) != 0 || len(notes) != 0 {
		t.Error("none", next, notes, ok)
	}
	if left := impl.SoonestLate(nil, nil); left != -1 {
		t.Error("none", left)
	}
}

// TestP25ClockFields changes one field at the first, a midst or the last place.
func TestP25ClockFields(t *testing.T) {
	far := []int64{math.MinInt64, math.MaxInt64, 1 << 32}
	try := func(name string, l impl.Limit, c impl.Clock, right bool) {
		t.Helper()
		for place := range 3 {
			limits, clocks := slices.Repeat([]impl.Limit{limit(255, 9)}, 3), slices.Repeat([]impl.Clock{clock(2, false)}, 3)
			limits[place], clocks[place] = l, c
			if _, _, ok := ticks(t, limits, clocks, 3, []bool{true, true, false}); ok != right {
				t.Error(name, place, l, c, ok)
			}
			if left := soonest(t, limits, clocks); (left == -1) == right {
				t.Error(name, place, l, c, left)
			}
		}
	}
	for _, modes := range append([]int64{-1, 0, 1, 254, 255, 256, 257}, far...) {
		try("Modes", limit(modes, 5), clock(2, false), modes >= 0 && modes <= 255)
	}
	for _, allowed := range append([]int64{-1, 0, 1, 2, 9999, 10000, 10001}, far...) {
		right := allowed >= 1 && allowed <= 10000
		try("Allowed", limit(1, allowed), clock(-1, false), right)
		try("Allowed, at it", limit(1, allowed), clock(allowed, true), right)
		try("Allowed, at 0", limit(1, allowed), clock(0, false), right)
	}
	for _, runs := range append([]int64{-3, -2, -1, 0, 1, 4, 5, 6, 7}, far...) {
		try("Runs, not late", limit(1, 5), clock(runs, false), runs >= -1 && runs < 5)
		try("Runs, late", limit(1, 5), clock(runs, true), runs == 5)
	}
	try("late at Allowed 1", limit(1, 1), clock(1, true), true)
	try("not late at Allowed 1", limit(1, 1), clock(1, false), false)
	for _, mode := range append([]int64{-2, -1, 0, 1, 6, 7, 8, 9, 63, 64}, far...) {
		next, notes, ok := ticks(t, []impl.Limit{limit(255, 2)}, stopped(1), mode, []bool{true})
		if right := mode >= 0 && mode <= 7; ok != right || ok && (next[0] != clock(0, false) || len(notes) != 1) {
			t.Error("mode", mode, next, notes, ok)
		}
	}
}

func TestP25StepsTold(t *testing.T) {
	for _, c := range []struct {
		name   string
		l      impl.Limit
		was    impl.Clock
		broken bool
		is     impl.Clock
		what   int64
	}{
		{"rests", limit(4, 3), clock(-1, false), false, clock(-1, false), 0},
		{"enters", limit(4, 3), clock(-1, false), true, clock(0, false), 1},
		{"goes on", limit(4, 3), clock(0, false), true, clock(1, false), 0},
		{"goes on up to one ahead", limit(4, 3), clock(1, false), true, clock(2, false), 0},
		{"is late", limit(4, 3), clock(2, false), true, clock(3, true), 3},
		{"stays late", limit(4, 3), clock(3, true), true, clock(3, true), 0},
		{"leaves at once", limit(4, 3), clock(0, false), false, clock(-1, false), 2},
		{"leaves under way", limit(4, 3), clock(2, false), false, clock(-1, false), 2},
		{"leaves late", limit(4, 3), clock(3, true), false, clock(-1, false), 2},
		{"another mode", limit(251, 3), clock(-1, false), true, clock(-1, false), 0},
		{"another mode, under way", limit(251, 3), clock(1, false), true, clock(-1, false), 2},
		{"another mode, late", limit(251, 3), clock(3, true), true, clock(-1, false), 2},
		{"no mode at all", limit(0, 3), clock(0, false), true, clock(-1, false), 2},
		{"all modes", limit(255, 3), clock(0, false), true, clock(1, false), 0},
		{"enters at Allowed 1", limit(4, 1), clock(-1, false), true, clock(0, false), 1},
		{"late at Allowed 1", limit(4, 1), clock(0, false), true, clock(1, true), 3},
		{"late still at Allowed 1", limit(4, 1), clock(1, true), true, clock(1, true), 0},
		{"late at Allowed 10000", limit(4, 10000), clock(9999, false), true, clock(10000, true), 3},
		{"one ahead at Allowed 10000", limit(4, 10000), clock(9998, false), true, clock(9999, false), 0},
	} {
		next, notes, ok := ticks(t, []impl.Limit{c.l}, []impl.Clock{c.was}, 2, []bool{c.broken})
		if !ok || next[0] != c.is {
			t.Error(c.name, next, ok)
		}
		if c.what == 0 && len(notes) != 0 || c.what != 0 && !slices.Equal(notes, []impl.Note{{Place: 0, What: c.what}}) {
			t.Error(c.name, notes)
		}
	}
}

func TestP25NotesByPlaces(t *testing.T) {
	limits := []impl.Limit{limit(2, 4), limit(3, 4), limit(2, 9), limit(1, 4), limit(2, 2), limit(255, 1)}
	clocks := []impl.Clock{clock(3, false), clock(-1, false), clock(3, false), clock(4, true), clock(1, false), clock(0, false)}
	next, notes, ok := ticks(t, limits, clocks, 1, []bool{true, true, true, true, false, true})
	if !ok || !slices.Equal(next, []impl.Clock{clock(4, true), clock(0, false), clock(4, false), clock(-1, false), clock(-1, false), clock(1, true)}) {
		t.Error(next, ok)
	}
	if !slices.Equal(notes, []impl.Note{{Place: 0, What: 3}, {Place: 1, What: 1}, {Place: 3, What: 2}, {Place: 4, What: 2}, {Place: 5, What: 3}}) {
		t.Error(notes)
	}
}

// TestP25EveryClock goes through all clocks of small limits, two by two, in two modes.
func TestP25EveryClock(t *testing.T) {
	type pair struct {
		l impl.Limit
		c impl.Clock
	}
	all := []pair{}
	for _, modes := range []int64{0, 1, 2, 3} {
		for allowed := int64(1); allowed <= 3; allowed++ {
			for runs := int64(-1); runs <= allowed; runs++ {
				all = append(all, pair{limit(modes, allowed), clock(runs, runs == allowed)})
			}
		}
	}
	for _, a := range all {
		for _, b := range all {
			limits, clocks := []impl.Limit{a.l, b.l}, []impl.Clock{a.c, b.c}
			soonest(t, limits, clocks)
			for row := range 8 {
				f := flagsOf(row, 3)
				ticks(t, limits, clocks, flag(f[2]), f[:2])
			}
		}
	}
}

// TestP25LateOnce: from an entering to a leaving each limit is told late once, just
// when it has run for as long as it is allowed to.
func TestP25LateOnce(t *testing.T) {
	for seed := range int64(60) {
		n := int(seed%7) + 1
		limits, clocks := []impl.Limit{}, stopped(n)
		allowed, modes := someNumbers(seed, n, 1, 6), someNumbers(seed+1000, n, 0, 255)
		for i := range n {
			limits = append(limits, limit(modes[i]|3, allowed[i]))
		}
		entered, late := slices.Repeat([]int{-1}, n), make([]bool, n)
		for tick, row := range someNumbers(seed+2000, 200, 0, 9999) {
			broken := flagsOf(int(row)|int(row/7), n)
			next, notes, ok := ticks(t, limits, clocks, row%17/16*5, broken)
			if !ok {
				t.Fatal(seed, tick)
			}
			for _, note := range notes {
				i := note.Place
				switch note.What {
				case 1:
					if entered[i] >= 0 {
						t.Error("entered twice", seed, tick, i)
					}
					entered[i], late[i] = tick, false
				case 2:
					if entered[i] < 0 {
						t.Error("left, and was not in", seed, tick, i)
					}
					entered[i] = -1
				case 3:
					if late[i] || entered[i] < 0 || int64(tick-entered[i]) != allowed[i] {
						t.Error("late twice, or at a wrong tick", seed, tick, i)
					}
					late[i] = true
				}
			}
			for i, c := range next {
				if (c.Runs >= 0) != (entered[i] >= 0) || c.Late != (entered[i] >= 0 && late[i]) || entered[i] >= 0 && int64(tick-entered[i]) >= allowed[i] && !late[i] {
					t.Error("not what was told", seed, tick, i, c)
				}
			}
			clocks = next
		}
	}
}

func TestP25SoonestTold(t *testing.T) {
	limits := []impl.Limit{limit(0, 5), limit(255, 9), limit(1, 1), limit(1, 10000)}
	for _, c := range []struct {
		name   string
		clocks []impl.Clock
		left   int64
	}{
		{"none runs", stopped(4), -1},
		{"one is late already", []impl.Clock{clock(5, true), clock(-1, false), clock(-1, false), clock(-1, false)}, -1},
		{"all are late", []impl.Clock{clock(5, true), clock(9, true), clock(1, true), clock(10000, true)}, -1},
		{"one", []impl.Clock{clock(-1, false), clock(2, false), clock(-1, false), clock(-1, false)}, 7},
		{"one beside one that is late", []impl.Clock{clock(5, true), clock(2, false), clock(-1, false), clock(-1, false)}, 7},
		{"several", []impl.Clock{clock(1, false), clock(6, false), clock(-1, false), clock(0, false)}, 3},
		{"several, the first is soonest", []impl.Clock{clock(3, false), clock(6, false), clock(-1, false), clock(0, false)}, 2},
		{"several, the last is soonest", []impl.Clock{clock(0, false), clock(0, false), clock(1, true), clock(9999, false)}, 1},
		{"two as soon", []impl.Clock{clock(0, false), clock(4, false), clock(-1, false), clock(-1, false)}, 5},
		{"Allowed 1", []impl.Clock{clock(-1, false), clock(-1, false), clock(0, false), clock(-1, false)}, 1},
		{"the furthest", []impl.Clock{clock(-1, false), clock(-1, false), clock(-1, false), clock(0, false)}, 10000},
		{"too few", stopped(3), -1},
		{"late below Allowed", []impl.Clock{clock(2, true), clock(2, false), clock(-1, false), clock(-1, false)}, -1},
		{"not late at Allowed", []impl.Clock{clock(5, false), clock(2, false), clock(-1, false), clock(-1, false)}, -1},
	} {
		if left := soonest(t, limits, c.clocks); left != c.left {
			t.Error(c.name, left, c.left)
		}
	}
}

// TestP25SoonestComes: so many steps later, and not earlier, the first of those that
// are not late yet is told late.
func TestP25SoonestComes(t *testing.T) {
	for seed := range int64(80) {
		n := int(seed%9) + 1
		allowed, runs := someNumbers(seed, n, 1, 20), someNumbers(seed+500, n, -1, 20)
		limits, clocks := []impl.Limit{}, []impl.Clock{}
		for i := range n {
			r := min(runs[i], allowed[i])
			limits, clocks = append(limits, limit(16, allowed[i])), append(clocks, clock(r, r == allowed[i]))
		}
		broken := []bool{}
		for _, c := range clocks {
			broken = append(broken, c.Runs >= 0)
		}
		left := soonest(t, limits, clocks)
		for step := int64(1); step <= 25 && left >= 0; step++ {
			next, notes, _ := ticks(t, limits, clocks, 4, broken)
			if late := len(notes) > 0; late && step < left || !late && step == left {
				t.Error(seed, step, left, notes)
			}
			clocks = next
		}
		if left < 0 {
			if _, notes, _ := ticks(t, limits, clocks, 4, broken); len(notes) != 0 {
				t.Error(seed, notes)
			}
		}
	}
}

func dueTest(every int64, last int64) impl.Test {
	return impl.Test{Every: every, Last: last}
}

// wantDue takes the furthest again and again, of those as far the first.
func wantDue(tests []impl.Test, now int64) []int64 {
	if len(tests) > 60 || now < 0 || now > 1000000000 {
		return nil
	}
	for _, x := range tests {
		if x.Every < 1 || x.Every > 1000000 || x.Last < 0 || x.Last > now {
			return nil
		}
	}
	places := []int64{}
	for {
		best := -1
		for i, x := range tests {
			due := now-x.Last >= x.Every && !slices.Contains(places, int64(i))
			if due && (best < 0 || now-x.Last-x.Every > now-tests[best].Last-tests[best].Every) {
				best = i
			}
		}
		if best < 0 {
			return places
		}
		places = append(places, int64(best))
	}
}

func dues(t *testing.T, tests []impl.Test, now int64) []int64 {
	t.Helper()
	kept := slices.Clone(tests)
	places := impl.DueTests(tests, now)
	if want := wantDue(tests, now); !slices.Equal(places, want) {
		t.Error("due", tests, now, places, want)
	}
	if !slices.Equal(tests, kept) {
		t.Error("written into", tests)
	}
	return places
}

func TestP25DueTold(t *testing.T) {
	for _, c := range []struct {
		name   string
		tests  []impl.Test
		now    int64
		places []int64
	}{
		{"none", nil, 0, nil},
		{"just now", []impl.Test{dueTest(10, 90)}, 100, []int64{0}},
		{"a tick ahead of it", []impl.Test{dueTest(10, 91)}, 100, nil},
		{"a tick behind it", []impl.Test{dueTest(10, 89)}, 100, []int64{0}},
		{"the furthest first", []impl.Test{dueTest(10, 90), dueTest(10, 80), dueTest(10, 85)}, 100, []int64{1, 2, 0}},
		{"as far, by place", []impl.Test{dueTest(10, 85), dueTest(5, 90), dueTest(1, 94), dueTest(90, 5)}, 100, []int64{0, 1, 2, 3}},
		{"as far, behind a further one", []impl.Test{dueTest(10, 85), dueTest(20, 90), dueTest(5, 90), dueTest(1, 0)}, 100, []int64{3, 0, 2}},
		{"Last is now", []impl.Test{dueTest(1, 100)}, 100, nil},
		{"Last is one beyond", []impl.Test{dueTest(1, 50), dueTest(1, 101)}, 100, nil},
		{"Last at 0", []impl.Test{dueTest(100, 0)}, 100, []int64{0}},
		{"Last at -1", []impl.Test{dueTest(100, -1)}, 100, nil},
		{"Every at 0", []impl.Test{dueTest(0, 0)}, 100, nil},
		{"Every at 1", []impl.Test{dueTest(1, 99)}, 100, []int64{0}},
		{"Every at 1000000", []impl.Test{dueTest(1000000, 0)}, 1000000, []int64{0}},
		{"Every at 1000000, a tick ahead", []impl.Test{dueTest(1000000, 0)}, 999999, nil},
		{"Every one beyond", []impl.Test{dueTest(1000001, 0)}, 1000001, nil},
		{"now at 0", []impl.Test{dueTest(1, 0)}, 0, nil},
		{"now at 1", []impl.Test{dueTest(1, 0)}, 1, []int64{0}},
		{"now at -1", []impl.Test{dueTest(1, 0)}, -1, nil},
		{"now at -1, Last too", []impl.Test{dueTest(1, -1)}, -1, nil},
		{"now at the last", []impl.Test{dueTest(1, 999999999), dueTest(1, 1000000000), dueTest(1, 0)}, 1000000000, []int64{2, 0}},
		{"now one beyond", []impl.Test{dueTest(1, 999999999)}, 1000000001, nil},
		{"now far off", []impl.Test{dueTest(1, 0)}, math.MaxInt64, nil},
		{"now far below", []impl.Test{dueTest(1, math.MinInt64)}, math.MinInt64, nil},
		{"far off", []impl.Test{dueTest(math.MaxInt64, 0)}, 100, nil},
		{"far below", []impl.Test{dueTest(math.MinInt64, math.MinInt64)}, 100, nil},
		{"the last one is not so", []impl.Test{dueTest(1, 5), dueTest(1, 6), dueTest(0, 6)}, 100, nil},
	} {
		if places := dues(t, c.tests, c.now); !slices.Equal(places, c.places) {
			t.Error(c.name, places, c.places)
		}
	}
}

func TestP25DueSizes(t *testing.T) {
	for _, n := range []int{0, 1, 59, 60, 61, 100} {
		many := n
		if n > 60 {
			many = 0
		}
		if places := dues(t, slices.Repeat([]impl.Test{dueTest(3, 4)}, n), 9); len(places) != many {
			t.Error(n, places)
		}
		if places := dues(t, slices.Repeat([]impl.Test{dueTest(3, 4)}, n), 6); len(places) != 0 {
			t.Error(n, places)
		}
	}
}

func TestP25SomeDue(t *testing.T) {
	for seed := range int64(300) {
		n, now := int(seed%61), 40+seed%50
		every, last := someNumbers(seed, n, 1, 40), someNumbers(seed+700, n, 0, 40)
		tests := []impl.Test{}
		for i := range n {
			tests = append(tests, dueTest(every[i], last[i]))
		}
		dues(t, tests, now)
	}
}

func wantJobs(jobs []impl.Job) bool {
	for i, j := range jobs {
		if j.Time < 1 || j.Time > 1000 {
			return false
		}
		for k, after := range j.After {
			if after < 0 || after >= int64(i) || k > 0 && after <= j.After[k-1] {
				return false
			}
		}
	}
	return len(jobs) < 41
}

// rowsTo is the greatest sum of Times along any row that ends with a job.
func rowsTo(jobs []impl.Job, place int64, known []int64) int64 {
	if known[place] == 0 {
		for _, after := range jobs[place].After {
			known[place] = max(known[place], rowsTo(jobs, after, known))
		}
		known[place] += jobs[place].Time
	}
	return known[place]
}

func wantCritical(jobs []impl.Job) int64 {
	if !wantJobs(jobs) {
		return -1
	}
	most, known := int64(0), make([]int64, len(jobs))
	for place := range jobs {
		most = max(most, rowsTo(jobs, int64(place), known))
	}
	return most
}

// wantSchedule goes tick by tick, with a book of how long each job has still to go.
func wantSchedule(jobs []impl.Job, crews int64) ([]int64, int64) {
	if !wantJobs(jobs) || crews < 1 || crews > 10 {
		return nil, -1
	}
	begins, left, ended := make([]int64, len(jobs)), make([]int64, len(jobs)), make([]bool, len(jobs))
	begun, over, free := make([]bool, len(jobs)), 0, crews
	for now := int64(0); ; now++ {
		for i := range jobs {
			if begun[i] && !ended[i] && left[i] == 0 {
				ended[i] = true
				over++
				free++
			}
		}
		if over == len(jobs) {
			return begins, now
		}
		for i, j := range jobs {
			waits := slices.ContainsFunc(j.After, func(after int64) bool { return !ended[after] })
			if free > 0 && !begun[i] && !waits {
				begins[i], left[i], begun[i] = now, j.Time, true
				free--
			}
		}
		for i := range left {
			left[i]--
		}
	}
}

func wantScheduleOk(jobs []impl.Job, crews int64, begins []int64) bool {
	if !wantJobs(jobs) || crews < 1 || crews > 10 || len(begins) != len(jobs) {
		return false
	}
	busy := map[int64]int64{}
	for i, b := range begins {
		if b < 0 || b > 100000 {
			return false
		}
		for _, after := range jobs[i].After {
			if begins[after] < 0 || begins[after] > 100000 || b < begins[after]+jobs[after].Time {
				return false
			}
		}
		for tick := b; tick < b+jobs[i].Time; tick++ {
			busy[tick]++
			if busy[tick] > crews {
				return false
			}
		}
	}
	return true
}

// endOf is when the last job of a plan ends.
func endOf(jobs []impl.Job, begins []int64) int64 {
	end := int64(0)
	for i, b := range begins {
		end = max(end, b+jobs[i].Time)
	}
	return end
}

// isPlan holds what is said of begins against what is wanted; no plan is shorter than
// the critical row.
func isPlan(t *testing.T, jobs []impl.Job, crews int64, begins []int64) bool {
	t.Helper()
	kept, keptBegins := jobsCopy(jobs), slices.Clone(begins)
	ok := impl.ScheduleOk(jobs, crews, begins)
	if want := wantScheduleOk(jobs, crews, begins); ok != want {
		t.Error("a plan", jobs, crews, begins, ok, want)
	}
	if critical := impl.Critical(jobs); ok && endOf(jobs, begins) < critical {
		t.Error("shorter than the critical row", jobs, crews, begins, critical)
	}
	if !sameJobs(jobs, kept) || !slices.Equal(begins, keptBegins) {
		t.Error("written into", jobs, begins)
	}
	return ok
}

// schedules holds a schedule against what is wanted; it is a plan.
func schedules(t *testing.T, jobs []impl.Job, crews int64) ([]int64, int64) {
	t.Helper()
	kept := jobsCopy(jobs)
	begins, end := impl.Schedule(jobs, crews)
	if want, over := wantSchedule(jobs, crews); end != over || !slices.Equal(begins, want) {
		t.Error("schedule", jobs, crews, begins, end, want, over)
	}
	critical := impl.Critical(jobs)
	if want := wantCritical(jobs); critical != want {
		t.Error("critical", jobs, critical, want)
	}
	if end >= 0 && (!isPlan(t, jobs, crews, begins) || end != endOf(jobs, begins) || end < critical) {
		t.Error("no plan", jobs, crews, begins, end, critical)
	}
	if end < 0 && (end != -1 || len(begins) != 0) {
		t.Error("refused, and not nothing", begins, end)
	}
	if !sameJobs(jobs, kept) {
		t.Error("written into", jobs)
	}
	return begins, end
}

func TestP25JobsRight(t *testing.T) {
	for _, c := range []struct {
		name  string
		jobs  []impl.Job
		right bool
	}{
		{"none", nil, true}, {"one", []impl.Job{job(1)}, true}, {"the zero value", []impl.Job{{}}, false},
		{"40", slices.Repeat([]impl.Job{job(2)}, 40), true}, {"41", slices.Repeat([]impl.Job{job(2)}, 41), false}, {"100", slices.Repeat([]impl.Job{job(2)}, 100), false},
		{"Time at -1", []impl.Job{job(3), job(-1)}, false}, {"Time at 0", []impl.Job{job(3), job(0)}, false}, {"Time at 1", []impl.Job{job(3), job(1)}, true},
		{"Time at 1000", []impl.Job{job(1000), job(3)}, true}, {"Time at 1001", []impl.Job{job(1001), job(3)}, false},
		{"Time far off", []impl.Job{job(math.MaxInt64)}, false}, {"Time far below", []impl.Job{job(math.MinInt64)}, false},
		{"After rises", []impl.Job{job(1), job(1), job(1, 0, 1)}, true}, {"After does not rise", []impl.Job{job(1), job(1), job(1, 1, 0)}, false},
		{"After twice the same", []impl.Job{job(1), job(1), job(1, 1, 1)}, false}, {"After at -1", []impl.Job{job(1), job(1, -1)}, false},
		{"After at -1 and one more", []impl.Job{job(1), job(1, -1, 0)}, false}, {"After the job itself", []impl.Job{job(1), job(1, 1)}, false},
		{"After the first itself", []impl.Job{job(1, 0)}, false}, {"After the one ahead", []impl.Job{job(1), job(1), job(1, 1)}, true},
		{"After one behind", []impl.Job{job(1), job(1, 2), job(1)}, false}, {"After one ahead and one behind", []impl.Job{job(1), job(1, 0, 2), job(1)}, false},
		{"After far off", []impl.Job{job(1), job(1, math.MaxInt64)}, false}, {"After far below", []impl.Job{job(1), job(1, math.MinInt64)}, false},
		{"After of the last one", append(slices.Repeat([]impl.Job{job(2)}, 39), job(1, upTo(39)...)), true}, {"After of the last one, one more", append(slices.Repeat([]impl.Job{job(2)}, 39), job(1, upTo(40)...)), false},
	} {
		if wantJobs(c.jobs) != c.right {
			t.Error(c.name, "is not what is meant")
		}
		for _, crews := range []int64{1, 2, 10} {
			if _, end := schedules(t, c.jobs, crews); (end >= 0) != c.right {
				t.Error(c.name, crews, end)
			}
		}
		if n := impl.Critical(c.jobs); (n == -1) == c.right {
			t.Error(c.name, n)
		}
		begins := []int64{}
		for i := range c.jobs {
			begins = append(begins, int64(i)*1000)
		}
		if ok := isPlan(t, c.jobs, 1, begins); ok != c.right {
			t.Error(c.name, ok)
		}
	}
}

func TestP25CriticalTold(t *testing.T) {
	for _, c := range []struct {
		name string
		jobs []impl.Job
		most int64
	}{
		{"none", nil, 0}, {"one", []impl.Job{job(7)}, 7},
		{"side by side", []impl.Job{job(3), job(9), job(4)}, 9},
		{"in a row", []impl.Job{job(3), job(9, 0), job(4, 1)}, 16},
		{"in a row with a gap", []impl.Job{job(3), job(9), job(4, 0)}, 9},
		{"two rows that meet", []impl.Job{job(3), job(9), job(4, 0), job(1, 1, 2)}, 10},
		{"two rows that meet, the other one", []impl.Job{job(3), job(6), job(4, 0), job(1, 1, 2)}, 8},
		{"one that parts", []impl.Job{job(3), job(6, 0), job(4, 0)}, 9},
		{"not the last one", []impl.Job{job(3), job(60, 0), job(4, 0)}, 63},
		{"the longest", func() []impl.Job {
			jobs := []impl.Job{}
			for i := range int64(40) {
				jobs = append(jobs, job(1000, upTo(i)...))
			}
			return jobs
		}(), 40000},
	} {
		if n := impl.Critical(c.jobs); n != c.most {
			t.Error(c.name, n, c.most)
		}
		schedules(t, c.jobs, 1)
		schedules(t, c.jobs, 10)
	}
}

func TestP25ScheduleTold(t *testing.T) {
	for _, c := range []struct {
		name   string
		jobs   []impl.Job
		crews  int64
		begins []int64
		end    int64
	}{
		{"none", nil, 1, nil, 0}, {"none with too many crews", nil, 11, nil, -1}, {"none with no crew", nil, 0, nil, -1},
		{"crews at -1", []impl.Job{job(2)}, -1, nil, -1}, {"crews at 0", []impl.Job{job(2)}, 0, nil, -1}, {"crews at 1", []impl.Job{job(2)}, 1, []int64{0}, 2},
		{"crews at 10", []impl.Job{job(2)}, 10, []int64{0}, 2}, {"crews at 11", []impl.Job{job(2)}, 11, nil, -1},
		{"crews far off", []impl.Job{job(2)}, math.MaxInt64, nil, -1}, {"crews far below", []impl.Job{job(2)}, math.MinInt64, nil, -1},
		{"more crews than jobs", []impl.Job{job(5), job(2), job(3)}, 4, []int64{0, 0, 0}, 5},
		{"one waits for a crew", []impl.Job{job(5), job(2), job(3)}, 2, []int64{0, 0, 2}, 5},
		{"each waits for the crew", []impl.Job{job(5), job(2), job(3)}, 1, []int64{0, 5, 7}, 10},
		{"one waits for its After", []impl.Job{job(5), job(2, 0), job(3)}, 3, []int64{0, 5, 0}, 7},
		{"one waits for both its After", []impl.Job{job(5), job(2), job(3, 0, 1)}, 3, []int64{0, 0, 5}, 8},
		{"a lesser place comes free with a crew", []impl.Job{job(5), job(2, 0), job(9), job(4)}, 2, []int64{0, 5, 0, 7}, 11},
		{"a lesser place comes free later", []impl.Job{job(5), job(2, 0), job(3), job(9), job(1)}, 2, []int64{0, 5, 0, 3, 7}, 12},
		{"a lesser place comes free later, and no crew with it", []impl.Job{job(2), job(3, 0), job(1), job(7), job(6)}, 2, []int64{0, 2, 0, 1, 5}, 11},
		{"a lesser place comes free just then", []impl.Job{job(5), job(2, 0), job(9), job(4)}, 1, []int64{0, 5, 7, 16}, 20},
		{"a greater place goes ahead", []impl.Job{job(5), job(2, 0), job(1), job(4)}, 2, []int64{0, 5, 0, 1}, 7},
		{"two end at one tick", []impl.Job{job(3), job(3), job(1, 0), job(1, 1), job(1)}, 2, []int64{0, 0, 3, 3, 4}, 5},
		{"ten and one more", slices.Repeat([]impl.Job{job(3)}, 11), 10, []int64{0, 0, 0, 0, 0, 0, 0, 0, 0, 0, 3}, 6},
		{"a crew stays free", []impl.Job{job(1000), job(1000, 0), job(1, 1)}, 2, []int64{0, 1000, 2000}, 2001},
		{"not right", []impl.Job{job(5), job(2, 1)}, 2, nil, -1},
	} {
		if begins, end := schedules(t, c.jobs, c.crews); end != c.end || !slices.Equal(begins, c.begins) {
			t.Error(c.name, begins, end)
		}
	}
}

func TestP25PlansTold(t *testing.T) {
	three := []impl.Job{job(4), job(3), job(2, 0)}
	for _, c := range []struct {
		name   string
		jobs   []impl.Job
		crews  int64
		begins []int64
		ok     bool
	}{
		{"none", nil, 1, nil, true}, {"none, one begins", nil, 1, []int64{0}, false}, {"none with no crew", nil, 0, nil, false}, {"none with 11 crews", nil, 11, nil, false},
		{"too few", three, 2, []int64{0, 0}, false}, {"just as many", three, 2, []int64{0, 0, 4}, true}, {"too many", three, 2, []int64{0, 0, 4, 9}, false}, {"nothing", three, 2, nil, false},
		{"crews at 0", three, 0, []int64{0, 10, 20}, false}, {"crews at 1", three, 1, []int64{0, 10, 20}, true}, {"crews at 10", three, 10, []int64{0, 0, 20}, true}, {"crews at 11", three, 11, []int64{0, 10, 20}, false}, {"crews at -1", three, -1, []int64{0, 10, 20}, false},
		{"a begin at -1", three, 2, []int64{0, -1, 4}, false}, {"a begin at -1, of an After", three, 2, []int64{-1, 0, 4}, false}, {"a begin at 100000", three, 2, []int64{0, 100000, 4}, true}, {"a begin one beyond", three, 2, []int64{0, 100001, 4}, false},
		{"the last begin at 100000", three, 2, []int64{0, 0, 100000}, true}, {"the last begin beyond", three, 2, []int64{0, 0, 100001}, false},
		{"a begin far off", three, 2, []int64{0, 0, math.MaxInt64}, false}, {"an After far off", three, 2, []int64{math.MaxInt64, 0, 4}, false}, {"a begin far below", three, 2, []int64{math.MinInt64, 0, 4}, false},
		{"just when its After ends", three, 2, []int64{0, 0, 4}, true}, {"a tick ahead", three, 2, []int64{0, 0, 3}, false}, {"ahead of its After", three, 2, []int64{10, 0, 4}, false},
		{"as many under way as crews", three, 2, []int64{0, 3, 4}, true}, {"one more", three, 1, []int64{0, 3, 6}, false}, {"one more at one tick alone", []impl.Job{job(4), job(3), job(2)}, 2, []int64{0, 2, 3}, false},
		{"at the tick at which another ends", []impl.Job{job(4), job(3), job(2)}, 1, []int64{0, 4, 7}, true}, {"the other way round", []impl.Job{job(4), job(3), job(2)}, 1, []int64{5, 2, 0}, true}, {"one within another", []impl.Job{job(9), job(1)}, 1, []int64{0, 5}, false},
		{"one within another, the other way round", []impl.Job{job(1), job(9)}, 1, []int64{5, 0}, false}, {"all at once", slices.Repeat([]impl.Job{job(1)}, 10), 10, make([]int64, 10), true}, {"all at once, one more", slices.Repeat([]impl.Job{job(1)}, 11), 10, make([]int64, 11), false},
		{"later than it must", three, 1, []int64{7, 50, 99}, true}, {"jobs that are not right", []impl.Job{job(4), job(3, 1)}, 2, []int64{0, 9}, false},
	} {
		if ok := isPlan(t, c.jobs, c.crews, c.begins); ok != c.ok {
			t.Error(c.name, ok)
		}
	}
}

// TestP25EveryPlan goes through all jobs of four small ones and all plans up to a tick.
func TestP25EveryPlan(t *testing.T) {
	lists := [][]impl.Job{}
	for row := range 64 {
		f := flagsOf(row, 6)
		after := func(flags []bool) []int64 {
			list := []int64{}
			for i, on := range flags {
				if on {
					list = append(list, int64(i))
				}
			}
			return list
		}
		lists = append(lists, []impl.Job{job(int64(row%3) + 1), job(2, after(f[:1])...), job(1, after(f[1:3])...), job(int64(row%2)+1, after(f[3:])...)})
	}
	for _, jobs := range lists {
		for crews := int64(1); crews <= 3; crews++ {
			schedules(t, jobs, crews)
			plans := 0
			allSays(4, 6, func(begins []int64) {
				if isPlan(t, jobs, crews, begins) {
					plans++
				}
			})
			if crews > 1 && plans == 0 && impl.Critical(jobs) <= 6 {
				t.Error("no plan at all", jobs, crews)
			}
		}
	}
}

// someJobs have up to most After each, of those ahead of them.
func someJobs(seed int64, n int, time int64, most int) []impl.Job {
	times, jobs := someNumbers(seed, n, 1, time), []impl.Job{}
	for i := range n {
		j := job(times[i])
		if i > 0 {
			j.After = someNumbers(seed+int64(i)*37, int(seed+int64(i))%(most+1), 0, int64(i)-1)
			slices.Sort(j.After)
			j.After = slices.Compact(j.After)
		}
		jobs = append(jobs, j)
	}
	return jobs
}

func TestP25SomeSchedules(t *testing.T) {
	for seed := range int64(200) {
		jobs := someJobs(seed, int(seed%41), 1+seed%23, int(seed%5))
		for _, crews := range []int64{1, 2, 3, 10} {
			begins, _ := schedules(t, jobs, crews)
			for place := range begins {
				for _, by := range []int64{-1, 1} {
					other := slices.Clone(begins)
					other[place] += by
					isPlan(t, jobs, crews, other)
				}
			}
			isPlan(t, jobs, max(crews-1, 1), begins)
		}
	}
	schedules(t, someJobs(5, 40, 1000, 4), 3)
	schedules(t, slices.Repeat([]impl.Job{job(1000)}, 40), 1)
}

// TestP25NewMemory: what is told can be written into, and the arguments stay.
func TestP25NewMemory(t *testing.T) {
	limits, clocks, broken := []impl.Limit{limit(1, 2), limit(1, 3)}, []impl.Clock{clock(0, false), clock(-1, false)}, []bool{true, true}
	next, notes, _ := impl.ClockStep(limits, clocks, 0, broken)
	next[0], next[1], notes[0] = clock(77, true), clock(78, true), impl.Note{}
	if again, told, ok := impl.ClockStep(limits, clocks, 0, broken); !ok || fmt.Sprint(again, told) != "[{1 false} {0 false}] [{1 1}]" {
		t.Error(again, told, ok)
	}
	jobs := []impl.Job{job(3), job(2, 0)}
	begins, _ := impl.Schedule(jobs, 1)
	begins[0], begins[1] = 9, 9
	if again, end := impl.Schedule(jobs, 1); fmt.Sprint(again, end) != "[0 3] 5" {
		t.Error(again, end)
	}
	tests := []impl.Test{dueTest(1, 0), dueTest(1, 1)}
	places := impl.DueTests(tests, 9)
	places[0], places[1] = 9, 9
	if again := impl.DueTests(tests, 9); fmt.Sprint(again) != "[0 1]" {
		t.Error(again)
	}
}
