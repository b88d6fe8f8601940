package tests

import (
	"math"
	"slices"
	"testing"

	"loop.example/g00062/impl"
)

func drumFields(d *impl.Drum) []*int64 {
	return []*int64{&d.Water, &d.Steam, &d.Heat, &d.Fed, &d.Drawn, &d.Given, &d.Taken}
}

// drumOf: a drum with the books that these three ask for, with so much drawn and taken ahead.
func drumOf(water int64, steam int64, heat int64, drawn int64, taken int64) impl.Drum {
	return impl.Drum{
		Water: water, Steam: steam, Heat: heat,
		Fed: water + steam + drawn, Drawn: drawn, Given: heat + taken, Taken: taken,
	}
}

func wantDrumOk(d impl.Drum) bool {
	for _, n := range drumFields(&d) {
		if *n < 0 || *n > 1000000000000 {
			return false
		}
	}
	return d.Water+d.Steam == d.Fed-d.Drawn && d.Heat == d.Given-d.Taken && (d.Steam == 0 || d.Heat >= 20*d.Water+30*d.Steam)
}

// wantStep moves one measure after the other.
func wantStep(d impl.Drum, feed int64, fire int64, draw int64) (impl.Drum, bool) {
	for _, n := range []int64{feed, fire, draw} {
		if n < 0 || n > 1000000 {
			return impl.Drum{}, false
		}
	}
	if !wantDrumOk(d) || d.Fed+feed > 1000000000000 || d.Given+fire+4*feed > 1000000000000 {
		return impl.Drum{}, false
	}
	d.Water, d.Fed, d.Heat, d.Given = d.Water+feed, d.Fed+feed, d.Heat+4*feed, d.Given+4*feed
	d.Heat, d.Given = d.Heat+fire, d.Given+fire
	for d.Heat-20*d.Water-30*d.Steam >= 10 && d.Water > 0 {
		d.Water, d.Steam = d.Water-1, d.Steam+1
	}
	for d.Heat-20*d.Water-30*d.Steam < 0 && d.Steam > 0 {
		d.Water, d.Steam = d.Water+1, d.Steam-1
	}
	for ; draw > 0 && d.Steam > 0; draw-- {
		d.Steam, d.Drawn, d.Heat, d.Taken = d.Steam-1, d.Drawn+1, d.Heat-30, d.Taken+30
	}
	return d, true
}

func smallDrums() []impl.Drum {
	var list []impl.Drum
	for _, water := range []int64{0, 1, 2, 7, 30} {
		for _, heat := range []int64{0, 1, 20 * water, 25 * water, 500} {
			list = append(list, drumOf(water, 0, heat, 3, 90))
		}
		for _, steam := range []int64{1, 2, 9} {
			for _, more := range []int64{0, 1, 9, 10, 200} {
				list = append(list, drumOf(water, steam, 20*water+30*steam+more, 5, 150))
			}
		}
	}
	return list
}

func wrongDrums() []impl.Drum {
	const most = impl.MaxDrum
	list := []impl.Drum{
		{Water: 1}, {Steam: 1, Fed: 1}, {Heat: 1}, {Fed: 1}, {Drawn: 1}, {Given: 1}, {Taken: 1},
		{Water: 1, Fed: 2}, {Heat: 5, Given: 6}, {Heat: 5, Given: 5, Taken: 1}, {Water: 1, Fed: 1, Drawn: 1},
		drumOf(0, 1, 29, 0, 0), drumOf(3, 2, 119, 0, 0), drumOf(3, 2, 0, 0, 0),
		drumOf(most+1, 0, 0, 0, 0), drumOf(0, 0, most+1, 0, 0), drumOf(most, 0, 0, 1, 0), drumOf(0, 0, most, 0, 1),
		drumOf(0, 0, 0, most+1, 0), drumOf(0, 0, 0, 0, most+1), drumOf(-1, 0, 0, 5, 0), drumOf(0, 0, -1, 0, 5), drumOf(-1, 1, 100, 5, 5), drumOf(1, -1, 100, 5, 5),
		drumOf(math.MinInt64, 0, 0, math.MinInt64, 0), drumOf(math.MaxInt64, 1, 0, 0, 0),
	}
	for i := range 7 {
		for _, n := range []int64{-1, most + 1, math.MinInt64, math.MaxInt64} {
			d := drumOf(3, 2, 150, 5, 150)
			*drumFields(&d)[i] = n
			list = append(list, d)
		}
	}
	return list
}

func TestP4Limits(t *testing.T) {
	if impl.MaxDrum != 1000000000000 || impl.MaxStepOf != 1000000 || impl.MaxActs != 500 {
		t.Error("a limit", impl.MaxDrum, impl.MaxStepOf, impl.MaxActs)
	}
}

func TestP4DrumOk(t *testing.T) {
	const most = impl.MaxDrum
	good := append(smallDrums(), impl.Drum{}, drumOf(most, 0, 0, 0, 0), drumOf(0, 0, most, 0, 0), drumOf(0, 0, 0, most, most),
		drumOf(0, 1, 30, 0, 0), drumOf(3, 2, 120, 0, 0), drumOf(0, 33333333333, most, 0, 0), drumOf(most, 0, most, 0, 0))
	for _, d := range good {
		if !impl.DrumOk(d) || !wantDrumOk(d) {
			t.Error("a right drum", d)
		}
		if n := impl.LevelOf(d); n != d.Water+2*d.Steam {
			t.Error("LevelOf", d, n)
		}
	}
	for _, d := range wrongDrums() {
		if impl.DrumOk(d) {
			t.Error("a wrong drum", d)
		}
		if n := impl.LevelOf(d); n != -1 {
			t.Error("LevelOf", d, n)
		}
		if e, ok := impl.DrumStep(d, 0, 0, 0); ok || e != (impl.Drum{}) {
			t.Error("DrumStep", d, e, ok)
		}
		if e, n := impl.DrumRun(d, nil); n != -1 || e != (impl.Drum{}) {
			t.Error("DrumRun", d, e, n)
		}
		if feeds, e, ok := impl.Controlled(d, 5, nil, nil); ok || len(feeds) != 0 || e != (impl.Drum{}) {
			t.Error("Controlled", d, feeds, e, ok)
		}
	}
}

// booksBalanced: what came less what went is what is there, and what the step moved is what was asked of it.
func booksBalanced(d impl.Drum, e impl.Drum, feed int64, fire int64, draw int64) bool {
	n := e.Drawn - d.Drawn
	return e.Water+e.Steam == e.Fed-e.Drawn && e.Heat == e.Given-e.Taken && e.Fed-d.Fed == feed && e.Given-d.Given == fire+4*feed &&
		n >= 0 && n <= draw && e.Taken-d.Taken == 30*n && (n == draw || e.Steam == 0)
}

func TestP4BooksBehindEveryStep(t *testing.T) {
	for _, d := range smallDrums() {
		for _, feed := range []int64{0, 1, 2, 13, 200} {
			for _, fire := range []int64{0, 1, 9, 10, 11, 160, 5000} {
				for _, draw := range []int64{0, 1, 4, 500} {
					e, ok := impl.DrumStep(d, feed, fire, draw)
					want, wantOk := wantStep(d, feed, fire, draw)
					if e != want || ok != wantOk || !ok {
						t.Fatal("DrumStep", d, feed, fire, draw, e, ok, want)
					}
					if !impl.DrumOk(e) || !booksBalanced(d, e, feed, fire, draw) {
						t.Fatal("the books", d, feed, fire, draw, e)
					}
				}
			}
		}
	}
}

func TestP4BoilingEdges(t *testing.T) {
	base := drumOf(5, 4, 220, 0, 0)
	for _, c := range []struct {
		d          impl.Drum
		feed, fire int64
		draw       int64
		want       impl.Drum
	}{
		{base, 0, 0, 0, base},
		{base, 0, 9, 0, drumOf(5, 4, 229, 0, 0)},
		{base, 0, 10, 0, drumOf(4, 5, 230, 0, 0)},
		{base, 0, 19, 0, drumOf(4, 5, 239, 0, 0)},
		{base, 0, 50, 0, drumOf(0, 9, 270, 0, 0)},
		{base, 0, 1000, 0, drumOf(0, 9, 1220, 0, 0)},
		{base, 1, 15, 0, drumOf(7, 3, 239, 0, 0)},
		{base, 1, 6, 0, drumOf(7, 3, 230, 0, 0)},
		{base, 1, 16, 0, drumOf(6, 4, 240, 0, 0)},
		{base, 3, 0, 0, drumOf(12, 0, 232, 0, 0)},
		{base, 0, 0, 4, drumOf(5, 0, 100, 4, 120)},
		{base, 0, 0, 5, drumOf(5, 0, 100, 4, 120)},
		{base, 0, 0, 3, drumOf(5, 1, 130, 3, 90)},
		{base, 0, 10, 5, drumOf(4, 0, 80, 5, 150)},
		{drumOf(5, 0, 99, 0, 0), 0, 0, 5, drumOf(5, 0, 99, 0, 0)},
	} {
		if e, ok := impl.DrumStep(c.d, c.feed, c.fire, c.draw); !ok || e != c.want {
			t.Error("DrumStep", c, e, ok)
		}
	}
}

func TestP4StepBounds(t *testing.T) {
	const most, step = impl.MaxDrum, impl.MaxStepOf
	for _, c := range []struct {
		d                impl.Drum
		feed, fire, draw int64
		ok               bool
	}{
		{impl.Drum{}, step, step, step, true},
		{impl.Drum{}, step + 1, 0, 0, false}, {impl.Drum{}, 0, step + 1, 0, false}, {impl.Drum{}, 0, 0, step + 1, false},
		{impl.Drum{}, -1, 0, 0, false}, {impl.Drum{}, 0, -1, 0, false}, {impl.Drum{}, 0, 0, -1, false},
		{impl.Drum{}, math.MinInt64, 0, 0, false}, {impl.Drum{}, math.MaxInt64, 0, 0, false}, {impl.Drum{}, 0, math.MaxInt64, math.MinInt64, false},
		{drumOf(most-7, 0, 0, 0, 0), 7, 0, 0, true}, {drumOf(most-7, 0, 0, 0, 0), 8, 0, 0, false},
		{drumOf(5, 0, 0, most-12, 0), 7, 0, 0, true}, {drumOf(5, 0, 0, most-12, 0), 8, 0, 0, false},
		{drumOf(0, 0, most-7, 0, 0), 0, 7, 0, true}, {drumOf(0, 0, most-7, 0, 0), 0, 8, 0, false},
		{drumOf(0, 0, most-7, 0, 0), 1, 3, 0, true}, {drumOf(0, 0, most-7, 0, 0), 1, 4, 0, false}, {drumOf(0, 0, most-7, 0, 0), 2, 0, 0, false},
		{drumOf(1, 0, 1, 0, most-8), 1, 3, 0, true}, {drumOf(1, 0, 1, 0, most-8), 1, 4, 0, false},
		{drumOf(most, 0, most, 0, 0), 0, 0, step, true}, {drumOf(most, 0, most, 0, 0), 1, 0, 0, false}, {drumOf(most, 0, most, 0, 0), 0, 1, 0, false},
	} {
		e, ok := impl.DrumStep(c.d, c.feed, c.fire, c.draw)
		if ok != c.ok || !ok && e != (impl.Drum{}) {
			t.Error("DrumStep", c, e, ok)
		}
		if ok && (!impl.DrumOk(e) || !booksBalanced(c.d, e, c.feed, c.fire, c.draw)) {
			t.Error("the books", c, e)
		}
	}
}

// someActs: n acts that go up and down.
func someActs(n int) []impl.Act {
	var acts []impl.Act
	for i := range int64(n) {
		acts = append(acts, impl.Act{Feed: i * 7 % 23, Fire: i * i % 701, Draw: i * 5 % 31})
	}
	return acts
}

func TestP4RunsInTwoPieces(t *testing.T) {
	for _, start := range smallDrums() {
		acts := someActs(40)
		whole, n := impl.DrumRun(start, acts)
		if n != 40 {
			t.Fatal("a run", start, n)
		}
		want := start
		for cut := range len(acts) + 1 {
			first, n1 := impl.DrumRun(start, acts[:cut])
			if n1 != int64(cut) || first != want {
				t.Fatal("the first piece", start, cut, n1, first, want)
			}
			if second, n2 := impl.DrumRun(first, acts[cut:]); n2 != int64(40-cut) || second != whole {
				t.Fatal("the second piece", start, cut, n2, second, whole)
			}
			if cut < len(acts) {
				want, _ = wantStep(want, acts[cut].Feed, acts[cut].Fire, acts[cut].Draw)
			}
		}
	}
}

func TestP4RunsThatStop(t *testing.T) {
	for _, bad := range []impl.Act{{Feed: -1}, {Fire: -1}, {Draw: -1}, {Feed: impl.MaxStepOf + 1}, {Fire: impl.MaxStepOf + 1}, {Draw: impl.MaxStepOf + 1}} {
		for _, at := range []int{0, 1, 5, 19} {
			acts := someActs(20)
			acts[at] = bad
			want, n := impl.DrumRun(impl.Drum{}, acts[:at])
			if e, m := impl.DrumRun(impl.Drum{}, acts); m != int64(at) || m != n || e != want {
				t.Error("a refused act", bad, at, e, m, want)
			}
		}
	}
	full := drumOf(0, 0, 0, impl.MaxDrum-10, 0)
	if e, n := impl.DrumRun(full, []impl.Act{{Feed: 4}, {Feed: 6}, {Feed: 1}, {Fire: 1}}); n != 2 || e.Fed != impl.MaxDrum || e.Water != 10 {
		t.Error("full books", e, n)
	}
	if e, n := impl.DrumRun(impl.Drum{}, nil); n != 0 || e != (impl.Drum{}) {
		t.Error("no acts", e, n)
	}
	d, n := impl.DrumRun(impl.Drum{}, someActs(impl.MaxActs))
	if n != impl.MaxActs || !impl.DrumOk(d) || d == (impl.Drum{}) {
		t.Error("as many as may be", d, n)
	}
	if d, n := impl.DrumRun(impl.Drum{}, someActs(impl.MaxActs+1)); n != -1 || d != (impl.Drum{}) {
		t.Error("too many acts", d, n)
	}
}

func TestP4ControlledIsARun(t *testing.T) {
	for _, start := range smallDrums() {
		for _, level := range []int64{0, 1, 40, 1000, 3000000, impl.MaxDrum} {
			acts := someActs(25)
			var fires, draws []int64
			for _, a := range acts {
				fires, draws = append(fires, a.Fire), append(draws, a.Draw)
			}
			feeds, end, ok := impl.Controlled(start, level, fires, draws)
			if !ok || len(feeds) != len(acts) {
				t.Fatal("Controlled", start, level, feeds, ok)
			}
			d := start
			for i := range acts {
				want := max(0, min(level-d.Water-2*d.Steam+draws[i], 1000000))
				if feeds[i] != want {
					t.Fatal("a feed", start, level, i, feeds[i], want)
				}
				acts[i].Feed = feeds[i]
				d, _ = wantStep(d, feeds[i], fires[i], draws[i])
			}
			if e, n := impl.DrumRun(start, acts); n != 25 || e != end || e != d {
				t.Fatal("the run with these feeds", start, level, e, n, end)
			}
		}
	}
}

func TestP4ControlledRefuses(t *testing.T) {
	long, longer := make([]int64, impl.MaxActs), make([]int64, impl.MaxActs+1)
	near := drumOf(0, 0, 0, impl.MaxDrum-10, 0)
	for _, c := range []struct {
		d            impl.Drum
		level        int64
		fires, draws []int64
		ok           bool
	}{
		{impl.Drum{}, 0, nil, nil, true}, {impl.Drum{}, impl.MaxDrum, nil, []int64{}, true},
		{impl.Drum{}, -1, nil, nil, false}, {impl.Drum{}, impl.MaxDrum + 1, nil, nil, false}, {impl.Drum{}, math.MinInt64, nil, nil, false}, {impl.Drum{}, math.MaxInt64, nil, nil, false},
		{impl.Drum{}, 5, []int64{1}, nil, false}, {impl.Drum{}, 5, nil, []int64{1}, false}, {impl.Drum{}, 5, []int64{1, 2}, []int64{1}, false},
		{impl.Drum{}, 5, long, long, true}, {impl.Drum{}, 5, longer, longer, false}, {impl.Drum{}, 5, long, longer, false},
		{impl.Drum{}, 5, []int64{1, -1}, []int64{1, 1}, false}, {impl.Drum{}, 5, []int64{1, 1}, []int64{1, -1}, false},
		{impl.Drum{}, 5, []int64{impl.MaxStepOf}, []int64{impl.MaxStepOf}, true},
		{impl.Drum{}, 5, []int64{impl.MaxStepOf + 1}, []int64{0}, false}, {impl.Drum{}, 5, []int64{0}, []int64{impl.MaxStepOf + 1}, false},
		{impl.Drum{}, 5, []int64{0}, []int64{math.MaxInt64}, false}, {impl.Drum{}, 5, []int64{0}, []int64{math.MinInt64}, false},
		{near, 10, []int64{0, 0}, []int64{0, 0}, true}, {near, 11, []int64{0, 0}, []int64{0, 0}, false},
	} {
		feeds, e, ok := impl.Controlled(c.d, c.level, c.fires, c.draws)
		if ok != c.ok || !ok && (len(feeds) != 0 || e != (impl.Drum{})) || ok && len(feeds) != len(c.fires) {
			t.Error("Controlled", c.d, c.level, len(c.fires), len(c.draws), feeds, e, ok)
		}
	}
	if feeds, e, ok := impl.Controlled(drumOf(9, 0, 40, 0, 0), 5, nil, nil); !ok || len(feeds) != 0 || e != drumOf(9, 0, 40, 0, 0) {
		t.Error("no step", feeds, e, ok)
	}
}

func TestP4ControlledLeavesWhatItIsGiven(t *testing.T) {
	fires, draws := []int64{1, 200, 3, 99}, []int64{4, 5, 6, 98}
	feeds, _, ok := impl.Controlled(impl.Drum{}, 50, fires[:3], draws[:3])
	if !ok {
		t.Fatal("refused")
	}
	for i := range feeds {
		feeds[i] = -7
	}
	if !slices.Equal(fires, []int64{1, 200, 3, 99}) || !slices.Equal(draws, []int64{4, 5, 6, 98}) {
		t.Error("written into", fires, draws)
	}
	acts := someActs(6)
	impl.DrumRun(impl.Drum{}, acts[:5])
	if !slices.Equal(acts, someActs(6)) {
		t.Error("written into", acts)
	}
}
