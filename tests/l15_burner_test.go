package tests

import (
	"math"
	"slices"
	"strings"
	"testing"

	"loop.example/g00062/impl"
)

func TestP15Constants(t *testing.T) {
	if impl.BnOff != 0 || impl.BnPurge != 1 || impl.BnLight != 2 || impl.BnOn != 3 || impl.BnLock != 4 {
		t.Error("a state")
	}
	if impl.MaxCycles != 1000 || impl.PurgeTime != 5 || impl.LightTime != 3 || impl.MostTries != 3 {
		t.Error("a limit")
	}
}

func burner(state int64, timer int64, tries int64) impl.Burner {
	return impl.Burner{State: state, Timer: timer, Tries: tries}
}

// cycle writes what is seen by its letters: a(ir), g(as), f(lame), s(tart), x (stop), r(eset).
func cycle(letters string) impl.In {
	has := func(letter string) bool { return strings.Contains(letters, letter) }
	return impl.In{Air: has("a"), Gas: has("g"), Flame: has("f"), Start: has("s"), Stop: has("x"), Reset: has("r")}
}

func cycles(words ...string) []impl.In {
	list := []impl.In{}
	for _, w := range words {
		list = append(list, cycle(w))
	}
	return list
}

func cycleOf(bits int64) impl.In {
	f := flagsOf(int(bits), 6)
	return impl.In{Air: f[0], Gas: f[1], Flame: f[2], Start: f[3], Stop: f[4], Reset: f[5]}
}

func everyCycle() []impl.In {
	list := []impl.In{}
	for bits := range int64(64) {
		list = append(list, cycleOf(bits))
	}
	return list
}

// rightBurners are all that there are.
func rightBurners() []impl.Burner {
	list := []impl.Burner{burner(0, 0, 0), burner(3, 0, 0)}
	for tries := range int64(3) {
		for timer := range int64(5) {
			list = append(list, burner(1, timer, tries))
		}
		for timer := range int64(3) {
			list = append(list, burner(2, timer, tries))
		}
	}
	for tries := range int64(4) {
		list = append(list, burner(4, 0, tries))
	}
	return list
}

func wrongBurners() []impl.Burner {
	list := []impl.Burner{}
	right := rightBurners()
	for state := int64(-2); state <= 7; state++ {
		for timer := int64(-2); timer <= 7; timer++ {
			for tries := int64(-2); tries <= 7; tries++ {
				if b := burner(state, timer, tries); !slices.Contains(right, b) {
					list = append(list, b)
				}
			}
		}
	}
	for _, far := range []int64{math.MinInt64, math.MaxInt64, 256, 1 << 32} {
		for _, b := range right {
			list = append(list, burner(b.State+far, b.Timer, b.Tries))
			list = append(list, burner(b.State, b.Timer+far, b.Tries))
			list = append(list, burner(b.State, b.Timer, b.Tries+far))
		}
	}
	return list
}

func TestP15RightBurners(t *testing.T) {
	if n := len(rightBurners()); n != 30 {
		t.Fatal(n)
	}
	for _, b := range rightBurners() {
		if !impl.BurnerOk(b) {
			t.Error("right", b)
		}
	}
	for _, b := range wrongBurners() {
		if impl.BurnerOk(b) {
			t.Error("wrong", b)
		}
	}
}

func TestP15BurnersTold(t *testing.T) {
	for _, c := range []struct {
		state, timer, tries int64
		ok                  bool
	}{
		{-1, 0, 0, false}, {0, 0, 0, true}, {4, 0, 0, true}, {5, 0, 0, false},
		{1, -1, 0, false}, {1, 0, 0, true}, {1, 4, 0, true}, {1, 5, 0, false},
		{2, -1, 0, false}, {2, 0, 0, true}, {2, 2, 0, true}, {2, 3, 0, false},
		{0, 1, 0, false}, {3, 0, 0, true}, {3, 1, 0, false}, {4, 1, 0, false},
		{1, 0, -1, false}, {1, 0, 2, true}, {1, 0, 3, false},
		{2, 0, -1, false}, {2, 0, 2, true}, {2, 0, 3, false},
		{4, 0, -1, false}, {4, 0, 3, true}, {4, 0, 4, false},
		{0, 0, 1, false}, {3, 0, 1, false}, {0, 0, -1, false}, {3, -1, 0, false},
	} {
		if ok := impl.BurnerOk(burner(c.state, c.timer, c.tries)); ok != c.ok {
			t.Error(c, ok)
		}
	}
}

func wantOut(state int64) impl.Out {
	return []impl.Out{{}, {Fan: true}, {Fan: true, Spark: true, Valve: true}, {Fan: true, Valve: true}, {}}[state]
}

// wantBurner wants a right Burner.
func wantBurner(b impl.Burner, in impl.In) impl.Burner {
	if b.State == 4 {
		if in.Reset && !in.Flame {
			return burner(0, 0, 0)
		}
		return b
	}
	if in.Stop {
		return burner(0, 0, 0)
	}
	switch b.State {
	case 0:
		if in.Flame {
			return burner(4, 0, 0)
		}
		if in.Start {
			return burner(1, 0, 0)
		}
	case 1:
		return wantPurge(b, in)
	case 2:
		return wantLight(b, in)
	case 3:
		if !in.Air || !in.Gas || !in.Flame {
			return burner(4, 0, 0)
		}
	}
	return b
}

func wantPurge(b impl.Burner, in impl.In) impl.Burner {
	if in.Flame {
		return burner(4, 0, b.Tries)
	}
	if !in.Air {
		return burner(1, 0, b.Tries)
	}
	if b.Timer < 4 {
		return burner(1, b.Timer+1, b.Tries)
	}
	if in.Gas {
		return burner(2, 0, b.Tries)
	}
	return b
}

func wantLight(b impl.Burner, in impl.In) impl.Burner {
	if !in.Air || !in.Gas {
		return burner(4, 0, b.Tries)
	}
	if in.Flame {
		return burner(3, 0, 0)
	}
	if b.Timer < 2 {
		return burner(2, b.Timer+1, b.Tries)
	}
	if b.Tries < 2 {
		return burner(1, 0, b.Tries+1)
	}
	return burner(4, 0, 3)
}

func TestP15EveryStep(t *testing.T) {
	for _, b := range rightBurners() {
		for _, in := range everyCycle() {
			next, out, ok := impl.BurnerStep(b, in)
			if want := wantBurner(b, in); !ok || next != want || out != wantOut(want.State) {
				t.Error(b, in, next, out, ok)
			}
			if !impl.BurnerOk(next) {
				t.Error("it is not right any more", b, in, next)
			}
		}
	}
}

func TestP15WrongBurners(t *testing.T) {
	for _, b := range wrongBurners() {
		for _, in := range everyCycle() {
			if next, out, ok := impl.BurnerStep(b, in); ok || next != (impl.Burner{}) || out != (impl.Out{}) {
				t.Fatal(b, in, next, out, ok)
			}
		}
		for _, list := range [][]impl.In{nil, cycles("ags"), cycles("x", "ag")} {
			if outs, next, ok := impl.BurnerRun(b, list); ok || len(outs) != 0 || next != (impl.Burner{}) {
				t.Fatal(b, list, outs, next, ok)
			}
		}
	}
}

func TestP15RowsTold(t *testing.T) {
	for _, c := range []struct {
		name   string
		before impl.Burner
		seen   string
		behind impl.Burner
	}{
		{"a reset", burner(4, 0, 3), "r", burner(0, 0, 0)},
		{"a reset with a flame", burner(4, 0, 3), "rf", burner(4, 0, 3)},
		{"a reset and a start", burner(4, 0, 0), "rsag", burner(0, 0, 0)},
		{"a stop of a lock", burner(4, 0, 2), "x", burner(4, 0, 2)},
		{"a start of a lock", burner(4, 0, 1), "ags", burner(4, 0, 1)},
		{"a stop and a flame, off", burner(0, 0, 0), "xf", burner(0, 0, 0)},
		{"a stop and a flame, purging", burner(1, 3, 2), "xfag", burner(0, 0, 0)},
		{"a stop and a flame, lighting", burner(2, 2, 2), "xfag", burner(0, 0, 0)},
		{"a stop and a flame, on", burner(3, 0, 0), "xfag", burner(0, 0, 0)},
		{"a stop and a start, off", burner(0, 0, 0), "xsag", burner(0, 0, 0)},
		{"a stop and a start, purging", burner(1, 2, 1), "xsag", burner(0, 0, 0)},
		{"a stop at the end of the last try", burner(2, 2, 2), "xag", burner(0, 0, 0)},
		{"a stop without air", burner(3, 0, 0), "xgf", burner(0, 0, 0)},
		{"a reset that is no lock's", burner(3, 0, 0), "ragf", burner(3, 0, 0)},
		{"a flame while off", burner(0, 0, 0), "fag", burner(4, 0, 0)},
		{"a flame and a start", burner(0, 0, 0), "fags", burner(4, 0, 0)},
		{"a flame while purging keeps the tries", burner(1, 3, 2), "fag", burner(4, 0, 2)},
		{"a flame in the last cycle of the purge", burner(1, 4, 1), "fag", burner(4, 0, 1)},
		{"a flame while purging without air", burner(1, 3, 1), "f", burner(4, 0, 1)},
		{"a start without air and gas", burner(0, 0, 0), "s", burner(1, 0, 0)},
		{"no start", burner(0, 0, 0), "agr", burner(0, 0, 0)},
		{"a start while purging", burner(1, 1, 1), "ags", burner(1, 2, 1)},
		{"purging without gas", burner(1, 1, 1), "a", burner(1, 2, 1)},
		{"the last but one cycle of the purge without gas", burner(1, 3, 0), "a", burner(1, 4, 0)},
		{"the last cycle of the purge without gas", burner(1, 4, 2), "a", burner(1, 4, 2)},
		{"the last cycle of the purge", burner(1, 4, 2), "ag", burner(2, 0, 2)},
		{"lighting without air", burner(2, 1, 1), "g", burner(4, 0, 1)},
		{"lighting without gas", burner(2, 1, 1), "a", burner(4, 0, 1)},
		{"lighting without air, with a flame", burner(2, 1, 2), "gf", burner(4, 0, 2)},
		{"lighting without gas, with a flame", burner(2, 1, 2), "af", burner(4, 0, 2)},
		{"the end of the last try without gas", burner(2, 2, 2), "a", burner(4, 0, 2)},
		{"a flame", burner(2, 0, 2), "agf", burner(3, 0, 0)},
		{"a flame in the last cycle of the first try", burner(2, 2, 0), "agf", burner(3, 0, 0)},
		{"a flame in the last cycle of the last try", burner(2, 2, 2), "agf", burner(3, 0, 0)},
		{"the end of the first try", burner(2, 2, 0), "ag", burner(1, 0, 1)},
		{"the end of the second try", burner(2, 2, 1), "ag", burner(1, 0, 2)},
		{"the end of the third try", burner(2, 2, 2), "ag", burner(4, 0, 3)},
		{"the last but one cycle of the third try", burner(2, 1, 2), "ag", burner(2, 2, 2)},
		{"on without air", burner(3, 0, 0), "gf", burner(4, 0, 0)},
		{"on without gas", burner(3, 0, 0), "af", burner(4, 0, 0)},
		{"on without a flame", burner(3, 0, 0), "ag", burner(4, 0, 0)},
		{"on", burner(3, 0, 0), "agf", burner(3, 0, 0)},
	} {
		next, out, ok := impl.BurnerStep(c.before, cycle(c.seen))
		if !ok || next != c.behind || out != wantOut(c.behind.State) {
			t.Error(c.name, next, out, ok)
		}
	}
	for timer := range int64(5) {
		for tries := range int64(3) {
			for _, seen := range []string{"", "g", "gs", "gr"} {
				next, out, ok := impl.BurnerStep(burner(1, timer, tries), cycle(seen))
				if !ok || next != burner(1, 0, tries) || out != (impl.Out{Fan: true}) {
					t.Error("purging without air", timer, tries, seen, next, out, ok)
				}
			}
		}
	}
}

func TestP15WaitsForGas(t *testing.T) {
	for _, many := range []int{1, 2, 5, 100, 900} {
		list := append(cycles("s", "a", "a", "a", "a"), slices.Repeat(cycles("a"), many)...)
		outs, b, ok := impl.BurnerRun(impl.Burner{}, list)
		if !ok || b != burner(1, 4, 0) || len(outs) != len(list) || slices.ContainsFunc(outs, func(o impl.Out) bool { return o.Valve }) {
			t.Error(many, b, ok)
		}
		outs, b, ok = impl.BurnerRun(impl.Burner{}, append(list, cycle("ag")))
		if !ok || b != burner(2, 0, 0) || outs[len(outs)-1] != (impl.Out{Fan: true, Spark: true, Valve: true}) {
			t.Error(many, b, ok)
		}
		if _, b, ok = impl.BurnerRun(impl.Burner{}, append(list, cycle("g"))); !ok || b != burner(1, 0, 0) {
			t.Error("the air ends while it waits", many, b, ok)
		}
	}
}

func TestP15RunIsItsSteps(t *testing.T) {
	for seed := range int64(200) {
		list := liveCycles(seed, int(seed*5))
		for _, from := range rightBurners() {
			kept := slices.Clone(list)
			outs, last, ok := impl.BurnerRun(from, list)
			if !ok || len(outs) != len(list) {
				t.Fatal(from, len(list), ok)
			}
			b := from
			for i, in := range list {
				b = wantBurner(b, in)
				if outs[i] != wantOut(b.State) {
					t.Fatal(from, seed, i, outs[i])
				}
			}
			if last != b || !slices.Equal(list, kept) {
				t.Fatal(from, seed, last, b)
			}
		}
	}
}

func TestP15HowManyCycles(t *testing.T) {
	for _, b := range rightBurners() {
		if outs, next, ok := impl.BurnerRun(b, nil); !ok || len(outs) != 0 || next != b {
			t.Error("none", b, outs, next, ok)
		}
		many := slices.Repeat(cycles("agf"), 1000)
		if outs, next, ok := impl.BurnerRun(b, many); !ok || len(outs) != 1000 || !impl.BurnerOk(next) {
			t.Error("1000", b, next, ok)
		}
		if outs, next, ok := impl.BurnerRun(b, append(many, cycle("agf"))); ok || len(outs) != 0 || next != (impl.Burner{}) {
			t.Error("1001", b, next, ok)
		}
	}
}

func TestP15RunInPieces(t *testing.T) {
	for seed := range int64(50) {
		list := liveCycles(seed, 60)
		outs, last, _ := impl.BurnerRun(impl.Burner{}, list)
		for cut := range len(list) + 1 {
			first, between, _ := impl.BurnerRun(impl.Burner{}, list[:cut])
			second, end, ok := impl.BurnerRun(between, list[cut:])
			if !ok || end != last || !slices.Equal(append(first, second...), outs) {
				t.Fatal(seed, cut, end, last)
			}
		}
	}
}

// liveCycles lets a burner come far: what would stop it comes seldom.
func liveCycles(seed int64, n int) []impl.In {
	dice := someNumbers(seed, 6*n, 0, 99)
	list := make([]impl.In, n)
	from := impl.Burner{}
	for i := range list {
		d := dice[6*i : 6*i+6]
		lit := from.State == 3 && d[2] < 90 || from.State == 2 && d[2] < 25 || d[2] < 3
		list[i] = impl.In{Air: d[0] < 96, Gas: d[1] < 90, Flame: lit, Start: d[3] < 50, Stop: d[4] < 3, Reset: d[5] < 30}
		from = wantBurner(from, list[i])
	}
	return list
}

// sightsOf is what somebody else sees of a run.
func sightsOf(list []impl.In, outs []impl.Out) []impl.Sight {
	seen := make([]impl.Sight, len(list))
	for i, in := range list {
		seen[i] = impl.Sight{Air: in.Air, Gas: in.Gas, Flame: in.Flame, Valve: outs[i].Valve}
	}
	return seen
}

func TestP15RunsAreLawful(t *testing.T) {
	opened, lit := 0, 0
	for seed := range int64(2000) {
		list := liveCycles(seed, 200)
		outs, _, ok := impl.BurnerRun(impl.Burner{}, list)
		if !ok {
			t.Fatal(seed)
		}
		seen := sightsOf(list, outs)
		if at := impl.Lawful(seen); at != -1 {
			t.Fatal(seed, at, seen[max(0, at-5):at+1])
		}
		for i, o := range outs {
			if o.Spark && (i == 0 || !outs[i-1].Spark) {
				opened++
			}
			if o.Valve && !o.Spark {
				lit++
			}
		}
	}
	if opened < 1000 || lit < 1000 {
		t.Error("the runs tell too little", opened, lit)
	}
}

// A watched burner is one with the counts of whom stands beside it, so that all that can come of it is gone through.
type watched struct {
	burner impl.Burner
	purged int
	open   bool
	dark   int
	tries  int
}

func (w watched) behind(t *testing.T, in impl.In) watched {
	b, out, ok := impl.BurnerStep(w.burner, in)
	if !ok {
		t.Fatal(w, in)
	}
	n := watched{burner: b, open: out.Valve, tries: w.tries}
	if out.Valve && (!in.Air || !in.Gas) {
		t.Error("open without air or gas", w, in)
	}
	if out.Valve && !w.open {
		n.tries++
		if w.purged < 4 || in.Flame {
			t.Error("open without a purge", w, in)
		}
	}
	if out.Valve && !in.Flame {
		n.dark = w.dark + 1
		if n.dark > 3 {
			t.Error("open without a flame for too long", w, in)
		}
	}
	if !out.Valve && in.Air && !in.Flame {
		n.purged = min(w.purged+1, 4)
	}
	if b.State == 0 || b.State == 3 {
		n.tries = 0
	}
	if n.tries > 3 {
		t.Error("it does not end its tries", w, in)
	}
	return n
}

func TestP15WhateverComes(t *testing.T) {
	seen := map[watched]bool{{}: true}
	left := []watched{{}}
	states := map[impl.Burner]bool{}
	for len(left) > 0 && !t.Failed() {
		w := left[0]
		left = left[1:]
		states[w.burner] = true
		for _, in := range everyCycle() {
			if n := w.behind(t, in); !seen[n] {
				seen[n] = true
				left = append(left, n)
			}
		}
	}
	if len(states) != 30 {
		t.Error("not all that there are come", len(states))
	}
}

func TestP15EndsItsTries(t *testing.T) {
	for _, from := range rightBurners() {
		list := append(cycles("s"), slices.Repeat(cycles("ag"), 24)...)
		outs, b, ok := impl.BurnerRun(from, list)
		if from.State == 4 {
			if !ok || b != from {
				t.Error("a lock stays", from, b)
			}
			continue
		}
		if !ok || b.State != 4 || outs[24].Valve {
			t.Error(from, b, ok)
		}
	}
	list := append(cycles("s"), slices.Repeat(cycles("ag"), 24)...)
	for cut := range 24 {
		if _, b, _ := impl.BurnerRun(impl.Burner{}, list[:cut+1]); b.State == 4 {
			t.Error("it locks too early", cut, b)
		}
	}
	outs, b, _ := impl.BurnerRun(impl.Burner{}, list)
	open := 0
	for _, o := range outs {
		if o.Valve {
			open++
		}
	}
	if b != burner(4, 0, 3) || open != 9 {
		t.Error(b, open)
	}
}

// sight writes what is seen by its letters: a(ir), g(as), f(lame), v(alve).
func sight(letters string) impl.Sight {
	has := func(letter string) bool { return strings.Contains(letters, letter) }
	return impl.Sight{Air: has("a"), Gas: has("g"), Flame: has("f"), Valve: has("v")}
}

func sights(words ...string) []impl.Sight {
	list := []impl.Sight{}
	for _, w := range words {
		list = append(list, sight(w))
	}
	return list
}

// wantBarred asks each sentence of the chapter by itself, of the place i.
func wantBarred(list []impl.Sight, i int) bool {
	at := func(k int) impl.Sight {
		if k < 0 {
			return impl.Sight{}
		}
		return list[k]
	}
	if !at(i).Valve {
		return false
	}
	breathless := !at(i).Air || !at(i).Gas
	unpurged, dark := at(i).Flame, !at(i).Flame
	for back := 1; back <= 4; back++ {
		s := at(i - back)
		unpurged = unpurged || i-back < 0 || !s.Air || s.Flame || s.Valve
	}
	for back := 1; back <= 3; back++ {
		s := at(i - back)
		dark = dark && s.Valve && (back == 3 || !s.Flame)
	}
	return breathless || !at(i-1).Valve && unpurged || dark
}

func wantLawful(list []impl.Sight) int64 {
	for i := range list {
		if wantBarred(list, i) {
			return int64(i)
		}
	}
	return -1
}

func lawful(t *testing.T, list []impl.Sight) {
	t.Helper()
	kept := slices.Clone(list)
	if at := impl.Lawful(list); at != wantLawful(list) {
		t.Fatal(list, at, wantLawful(list))
	}
	if !slices.Equal(list, kept) {
		t.Fatal("the sights are changed", kept)
	}
}

func sightOf(bits int64) impl.Sight {
	f := flagsOf(int(bits), 4)
	return impl.Sight{Air: f[0], Gas: f[1], Flame: f[2], Valve: f[3]}
}

func TestP15EveryShortSight(t *testing.T) {
	for n := range 6 {
		allSays(n, 16, func(row []int64) {
			list := make([]impl.Sight, n)
			for i, bits := range row {
				list[i] = sightOf(bits)
			}
			lawful(t, list)
		})
	}
}

// What was purged may then be open, dark or lit, in every row of six places.
func TestP15EveryOpening(t *testing.T) {
	kinds := []impl.Sight{sight("ag"), sight("agv"), sight("agfv"), sight("agf")}
	for _, start := range [][]impl.Sight{nil, sights("ag", "ag", "ag"), sights("ag", "ag", "ag", "ag"), sights("a", "a", "a", "a", "agv")} {
		allSays(6, 4, func(row []int64) {
			list := slices.Clone(start)
			for _, kind := range row {
				list = append(list, kinds[kind])
			}
			lawful(t, list)
		})
	}
}

func TestP15SomeSights(t *testing.T) {
	found := map[int64]int{}
	for seed := range int64(20000) {
		list := sightsOf(liveCycles(seed, 40), make([]impl.Out, 40))
		b := impl.Burner{}
		for i, in := range liveCycles(seed, 40) {
			b = wantBurner(b, in)
			list[i].Valve = wantOut(b.State).Valve
		}
		change := someNumbers(seed, 2, 0, 39)
		switch seed % 4 {
		case 0:
			list[change[0]].Valve = !list[change[0]].Valve
		case 1:
			list[change[0]].Flame = !list[change[0]].Flame
		case 2:
			list[change[0]].Air = !list[change[0]].Air
		case 3:
			list[change[0]].Gas = !list[change[0]].Gas
		}
		lawful(t, list)
		found[min(impl.Lawful(list), 0)]++
	}
	if found[-1] < 1000 || found[0] < 1000 {
		t.Error("the sights tell too little", found)
	}
}

func TestP15SightsTold(t *testing.T) {
	air := []string{"a", "a", "a", "a"}
	for _, c := range []struct {
		name string
		seen []string
		at   int64
	}{
		{"none", nil, -1},
		{"nothing", []string{""}, -1},
		{"open at the first place", []string{"agv"}, 0},
		{"open and lit at the first place", []string{"agfv"}, 0},
		{"without air", append(air, "gv"), 4},
		{"without gas", append(air, "av"), 4},
		{"three places ahead", []string{"a", "a", "a", "agv"}, 3},
		{"four places ahead", append(air, "agv"), -1},
		{"five places ahead", append([]string{"a"}, append(air, "agv")...), -1},
		{"four ahead, what was farther counts no more", append([]string{"f"}, append(air, "agv")...), -1},
		{"a flame at the first of the four", []string{"af", "a", "a", "a", "agv"}, 4},
		{"a flame at the last of the four", []string{"a", "a", "a", "af", "agv"}, 4},
		{"no air at the first of the four", []string{"g", "a", "a", "a", "agv"}, 4},
		{"no air at the last of the four", []string{"a", "a", "a", "g", "agv"}, 4},
		{"a flame at this place itself", append(air, "agfv"), 4},
		{"open at one of the four", append(air, "agv", "a", "a", "a", "agv"), 8},
		{"shut for four between", append(air, "agv", "a", "a", "a", "a", "agv"), -1},
		{"dark for three", append(air, "agv", "agv", "agv"), -1},
		{"dark for three, then shut", append(air, "agv", "agv", "agv", "ag"), -1},
		{"dark for four", append(air, "agv", "agv", "agv", "agv"), 7},
		{"lit at the second", append(air, "agv", "agfv", "agv", "agv"), -1},
		{"lit at the second, dark for three then", append(air, "agv", "agfv", "agv", "agv", "agv"), 8},
		{"lit at the third", append(air, "agv", "agv", "agfv", "agv", "agv"), -1},
		{"lit at the fourth", append(air, "agv", "agv", "agv", "agfv", "agv", "agv"), -1},
		{"lit at the fourth, dark for three then", append(air, "agv", "agv", "agv", "agfv", "agv", "agv", "agv"), 10},
		{"open and the gas ends", append(air, "agv", "agfv", "afv"), 6},
		{"open and the air ends", append(air, "agv", "agfv", "gfv"), 6},
		{"the first of two", append(air, "gv", "av"), 4},
	} {
		if at := impl.Lawful(sights(c.seen...)); at != c.at {
			t.Error(c.name, at)
		}
	}
}

func TestP15HowManySights(t *testing.T) {
	shut := slices.Repeat(sights("ag"), 999)
	for _, c := range []struct {
		name string
		list []impl.Sight
		at   int64
	}{
		{"1000, at the first", append(sights("v"), shut...), 0},
		{"1000, at the last", append(slices.Clone(shut), sight("v")), 999},
		{"1000, none", append(slices.Clone(shut), sight("agv")), -1},
		{"1001, at the first", append(sights("v", "v"), shut...), -1},
		{"1001, at the last", append(slices.Clone(shut), sight("v"), sight("v")), -1},
		{"many", slices.Repeat(sights("v"), 5000), -1},
	} {
		if at := impl.Lawful(c.list); at != c.at {
			t.Error(c.name, at)
		}
	}
}

func TestP15OutsAreNew(t *testing.T) {
	list := cycles("s", "ag", "ag")
	first, _, _ := impl.BurnerRun(impl.Burner{}, list)
	second, _, _ := impl.BurnerRun(impl.Burner{}, list)
	first[0], first[2] = impl.Out{Spark: true}, impl.Out{Spark: true}
	if want := []impl.Out{{Fan: true}, {Fan: true}, {Fan: true}}; !slices.Equal(second, want) {
		t.Error(second)
	}
	if third, _, _ := impl.BurnerRun(impl.Burner{}, list); !slices.Equal(third, second) || !slices.Equal(list, cycles("s", "ag", "ag")) {
		t.Error(third)
	}
}
