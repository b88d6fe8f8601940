package tests

import (
	"math"
	"slices"
	"testing"

	"loop.example/g00062/impl"
)

// oneOp: one operation of float64, rounded by itself. Where rounded can't tell it (a number that is not known, or a 0,
// which has a sign), Go's operation stands alone, with nothing that it could be fused with.
func oneOp(a float64, sign rune, b float64) float64 {
	if impl.Known(a) && impl.Known(b) && !(sign == '/' && b == 0) {
		if f := rounded(a, sign, b); f != 0 {
			return f
		}
	}
	switch sign {
	case '+':
		return float64(a + b)
	case '-':
		return float64(a - b)
	case '*':
		return float64(a * b)
	}
	return float64(a / b)
}

func minusZero() float64 {
	return math.Copysign(0, -1)
}

// unknowns: all that is not known.
func unknowns() []float64 {
	return []float64{math.NaN(), math.Inf(1), math.Inf(-1)}
}

func pipeOf(n int, head float64, flow float64) impl.Pipe {
	return impl.Pipe{H: slices.Repeat([]float64{head}, n), Q: slices.Repeat([]float64{flow}, n)}
}

func pipeCopy(p impl.Pipe) impl.Pipe {
	return impl.Pipe{H: slices.Clone(p.H), Q: slices.Clone(p.Q)}
}

func samePipe(a impl.Pipe, b impl.Pipe) bool {
	return sameFloats(a.H, b.H) && sameFloats(a.Q, b.Q)
}

func emptyPipe(p impl.Pipe) bool {
	return len(p.H) == 0 && len(p.Q) == 0
}

// somePipe: n points with heads and flows of both signs, now and then a 0 and a -0.
func somePipe(seed int64, n int) impl.Pipe {
	p := pipeOf(n, 0, 0)
	heads, flows := someNumbers(seed, n, -100000, 900000), someNumbers(seed+1, n, -3000, 3000)
	for i := range n {
		p.H[i], p.Q[i] = float64(heads[i])/7, float64(flows[i])/13
		if heads[i]%11 == 0 {
			p.H[i] = minusZero()
		}
		if flows[i]%5 == 0 {
			p.Q[i] = math.Copysign(0, float64(heads[i]))
		}
	}
	return p
}

func someWaves(seed int64) impl.Waves {
	n := someNumbers(seed, 3, 1, 100000)
	w := impl.Waves{B: float64(n[0]) / 777, R: float64(n[1]) / 99999, Head: float64(n[2]-50000) / 31}
	switch seed % 4 {
	case 1:
		w.R = 0
	case 2:
		w.R, w.Head = minusZero(), minusZero()
	}
	return w
}

func someValves(seed int64, n int) []float64 {
	valves := make([]float64, n)
	for i, v := range someNumbers(seed, n, -40, 400) {
		valves[i] = float64(v) / 17
	}
	return valves
}

// wantPoint: the head and the flow of one point, each operation rounded by itself in the order of the brackets.
func wantPoint(p impl.Pipe, w impl.Waves, valve float64, i int) (float64, float64) {
	forward := func(i int) float64 {
		q := p.Q[i]
		return oneOp(oneOp(p.H[i], '+', oneOp(w.B, '*', q)), '-', oneOp(oneOp(w.R, '*', q), '*', math.Abs(q)))
	}
	backward := func(i int) float64 {
		q := p.Q[i]
		return oneOp(oneOp(p.H[i], '-', oneOp(w.B, '*', q)), '+', oneOp(oneOp(w.R, '*', q), '*', math.Abs(q)))
	}
	if i == 0 {
		return w.Head, oneOp(oneOp(w.Head, '-', backward(1)), '/', w.B)
	}
	if i == len(p.H)-1 {
		return oneOp(forward(i-1), '-', oneOp(w.B, '*', valve)), valve
	}
	f, b := forward(i-1), backward(i+1)
	return oneOp(oneOp(f, '+', b), '/', 2), oneOp(oneOp(f, '-', b), '/', oneOp(2, '*', w.B))
}

func wantHammer(p impl.Pipe, w impl.Waves, valve float64) impl.Pipe {
	q := pipeOf(len(p.H), 0, 0)
	for i := range p.H {
		q.H[i], q.Q[i] = wantPoint(p, w, valve, i)
	}
	return q
}

// hammers: what Hammer says, which must be the same bits with each number of workers.
func hammers(t *testing.T, p impl.Pipe, w impl.Waves, valve float64) (impl.Pipe, bool) {
	t.Helper()
	before := pipeCopy(p)
	one, ok := impl.Hammer(p, w, valve, 1)
	for workers := int64(2); workers <= 8; workers++ {
		q, also := impl.Hammer(p, w, valve, workers)
		if also != ok || !samePipe(q, one) {
			t.Fatal("workers show", workers, p, w, valve, one, ok, q, also)
		}
	}
	if !samePipe(p, before) {
		t.Fatal("the pipe was written to", before, p)
	}
	return one, ok
}

func wrongPipes() []impl.Pipe {
	list := []impl.Pipe{
		{}, pipeOf(1, 5, 1), pipeOf(101, 5, 1), pipeOf(300, 5, 1),
		{H: []float64{1, 2}}, {Q: []float64{1, 2}}, {H: []float64{1, 2}, Q: []float64{1}}, {H: []float64{1}, Q: []float64{1, 2}},
		{H: []float64{1, 2, 3}, Q: []float64{1, 2}}, {H: []float64{1, 2}, Q: []float64{1, 2, 3}},
		{H: make([]float64, 100), Q: make([]float64, 99)}, {H: make([]float64, 99), Q: make([]float64, 100)},
		{H: make([]float64, 100), Q: make([]float64, 101)}, {H: make([]float64, 101), Q: make([]float64, 100)},
	}
	for _, n := range []int{2, 3, 100} {
		for _, x := range unknowns() {
			for _, i := range []int{0, 1, n - 1} {
				p, q := pipeOf(n, 5, 1), pipeOf(n, 5, 1)
				p.H[i], q.Q[i] = x, x
				list = append(list, p, q)
			}
		}
	}
	return list
}

func wrongWaves() []impl.Waves {
	list := []impl.Waves{
		{}, {B: 0, R: 1, Head: 1}, {B: minusZero(), R: 1, Head: 1}, {B: -1, R: 1, Head: 1}, {B: -5e-324, R: 1, Head: 1},
		{B: 1, R: -1, Head: 1}, {B: 1, R: -5e-324, Head: 1}, {B: 1, R: -math.MaxFloat64, Head: 1},
	}
	for _, x := range unknowns() {
		list = append(list, impl.Waves{B: x, R: 1, Head: 1}, impl.Waves{B: 1, R: x, Head: 1}, impl.Waves{B: 1, R: 1, Head: x})
	}
	return list
}

func TestP7Constants(t *testing.T) {
	if impl.MaxPoints != 100 || impl.MaxValves != 500 || impl.MaxStore != 1000000000000 {
		t.Error("a constant", impl.MaxPoints, impl.MaxValves, impl.MaxStore)
	}
}

func TestP7PipeOk(t *testing.T) {
	for n := 2; n <= 100; n++ {
		if !impl.PipeOk(somePipe(int64(n), n)) {
			t.Error("a right pipe", n)
		}
	}
	for _, x := range []float64{0, minusZero(), -1, 5e-324, math.MaxFloat64, -math.MaxFloat64} {
		if !impl.PipeOk(pipeOf(2, x, x)) {
			t.Error("a known number", x)
		}
	}
	for _, p := range wrongPipes() {
		if impl.PipeOk(p) {
			t.Error("a wrong pipe", p)
		}
	}
}

func TestP7HammerRefuses(t *testing.T) {
	p, w := pipeOf(3, 5, 1), impl.Waves{B: 1, R: 1, Head: 1}
	refused := func(p impl.Pipe, w impl.Waves, valve float64, workers int64) {
		t.Helper()
		if q, ok := impl.Hammer(p, w, valve, workers); ok || !emptyPipe(q) {
			t.Error("Hammer", p, w, valve, workers, q, ok)
		}
		if q, most, ok := impl.HammerRun(p, w, []float64{valve}, workers); ok || !emptyPipe(q) || !impl.Same(most, 0) {
			t.Error("HammerRun", p, w, valve, workers, q, most, ok)
		}
	}
	for _, wrong := range wrongPipes() {
		refused(wrong, w, 0, 1)
		if q, most, ok := impl.HammerRun(wrong, w, nil, 1); ok || !emptyPipe(q) || !impl.Same(most, 0) {
			t.Error("no valve, a wrong pipe", wrong, q, most, ok)
		}
	}
	for _, wrong := range wrongWaves() {
		refused(p, wrong, 0, 1)
		if q, most, ok := impl.HammerRun(p, wrong, nil, 1); ok || !emptyPipe(q) || !impl.Same(most, 0) {
			t.Error("no valve, wrong waves", wrong, q, most, ok)
		}
	}
	for _, valve := range unknowns() {
		refused(p, w, valve, 1)
	}
	for _, workers := range []int64{0, -1, 9, 100, math.MinInt64, math.MaxInt64} {
		refused(p, w, 0, workers)
		if q, most, ok := impl.HammerRun(p, w, nil, workers); ok || !emptyPipe(q) || !impl.Same(most, 0) {
			t.Error("no valve, wrong workers", workers, q, most, ok)
		}
	}
}

func TestP7WavesAtTheirEdges(t *testing.T) {
	p := pipeOf(3, 5, 1)
	for _, w := range []impl.Waves{
		{B: 5e-324}, {B: math.MaxFloat64}, {B: 1, R: 0}, {B: 1, R: minusZero()}, {B: 1, R: 5e-324}, {B: 1, R: math.MaxFloat64},
		{B: 1, Head: minusZero()}, {B: 1, Head: -math.MaxFloat64}, {B: 1, Head: math.MaxFloat64},
	} {
		for _, valve := range []float64{0, minusZero(), -3, math.MaxFloat64, -math.MaxFloat64} {
			q, ok := hammers(t, p, w, valve)
			if want := wantHammer(p, w, valve); !ok || !samePipe(q, want) {
				t.Error("Hammer", w, valve, q, ok, want)
			}
		}
	}
}

func TestP7AnyNumberOfWorkersTheSameBits(t *testing.T) {
	for _, n := range []int{2, 3, 4, 5, 7, 8, 9, 10, 15, 16, 17, 24, 25, 33, 50, 63, 64, 65, 99, 100} {
		for seed := range int64(8) {
			p, w, valve := somePipe(100*seed+int64(n), n), someWaves(seed+int64(n)), someValves(seed, 1)[0]
			q, ok := hammers(t, p, w, valve)
			if want := wantHammer(p, w, valve); !ok || !samePipe(q, want) {
				t.Fatal("Hammer", p, w, valve, q, ok, want)
			}
		}
	}
	for _, n := range []int{2, 3, 40, 100} {
		p, w, valves := somePipe(int64(n), n), someWaves(int64(n)), someValves(int64(n), 60)
		one, most, ok := impl.HammerRun(p, w, valves, 1)
		for workers := int64(2); workers <= 8; workers++ {
			q, also, same := impl.HammerRun(p, w, valves, workers)
			if same != ok || !samePipe(q, one) || !impl.Same(also, most) {
				t.Error("workers show in a run", n, workers)
			}
		}
	}
}

func TestP7HammerTold(t *testing.T) {
	for _, c := range []struct {
		p     impl.Pipe
		w     impl.Waves
		valve float64
		want  impl.Pipe
	}{
		// Two points: the ends lean on each other.
		{impl.Pipe{H: []float64{10, 20}, Q: []float64{3, 5}}, impl.Waves{B: 2, R: 0, Head: 7}, 4,
			impl.Pipe{H: []float64{7, 8}, Q: []float64{-1.5, 4}}},
		{impl.Pipe{H: []float64{10, 20}, Q: []float64{3, 5}}, impl.Waves{B: 2, R: 0.5, Head: 7}, 4,
			impl.Pipe{H: []float64{7, 3.5}, Q: []float64{-7.75, 4}}},
		// Three: the one in the middle leans on both ends.
		{impl.Pipe{H: []float64{10, 20, 40}, Q: []float64{3, 5, 7}}, impl.Waves{B: 2, R: 0, Head: 7}, 4,
			impl.Pipe{H: []float64{7, 21, 22}, Q: []float64{-1.5, -2.5, 4}}},
		// A flow below 0 is held back the other way round.
		{impl.Pipe{H: []float64{10, 10, 10}, Q: []float64{-1, -1, -1}}, impl.Waves{B: 2, R: 0.5, Head: 10}, 0,
			impl.Pipe{H: []float64{10, 10, 8.5}, Q: []float64{-0.75, -0.75, 0}}},
		{impl.Pipe{H: []float64{0, 0, 0}, Q: []float64{-2, 0, 4}}, impl.Waves{B: 1, R: 1, Head: 0}, minusZero(),
			impl.Pipe{H: []float64{0, 7, 0}, Q: []float64{0, -5, minusZero()}}},
		// Four: all of what was there before, nothing of what was just told.
		{impl.Pipe{H: []float64{1, 2, 4, 8}, Q: []float64{0, 0, 0, 0}}, impl.Waves{B: 0.5, R: 3, Head: 100}, 2,
			impl.Pipe{H: []float64{100, 2.5, 5, 3}, Q: []float64{196, -3, -6, 2}}},
	} {
		if q, ok := hammers(t, c.p, c.w, c.valve); !ok || !samePipe(q, c.want) {
			t.Error("Hammer", c.p, c.w, c.valve, q, ok)
		}
	}
}

func TestP7HammerInTheOrderOfItsBrackets(t *testing.T) {
	const great = 1e16
	p, w := pipeOf(3, 1, 1), impl.Waves{B: great, R: great, Head: 1}
	q, ok := hammers(t, p, w, 0)
	if want := (impl.Pipe{H: []float64{1, 0, 0}, Q: []float64{1e-16, 0, 0}}); !ok || !samePipe(q, want) {
		t.Error("the order of sums", q, ok)
	}
	// The square of this q is too great, R times q is not.
	p = pipeOf(2, 0, 1e200)
	if q, ok := hammers(t, p, impl.Waves{B: 1, R: 1e-200, Head: 0}, 0); !ok || !samePipe(q, impl.Pipe{H: []float64{0, 0}, Q: []float64{0, 0}}) {
		t.Error("the order of products", q, ok)
	}
	close, twice := 1+math.Ldexp(1, -30), 1+math.Ldexp(1, -29)
	q, ok = hammers(t, pipeOf(3, -twice, close), impl.Waves{B: close, R: 0, Head: 0}, close)
	if !ok || !impl.Same(q.H[2], -twice) || !impl.Same(q.H[1], -twice) || !impl.Same(q.Q[1], twice/close) {
		t.Error("B times a flow was fused", q, ok)
	}
	q, ok = hammers(t, pipeOf(2, twice-1, close), impl.Waves{B: 1, R: close, Head: 0}, 0)
	if want := wantHammer(pipeOf(2, twice-1, close), impl.Waves{B: 1, R: close, Head: 0}, 0); !ok || !samePipe(q, want) {
		t.Error("R times a flow was fused", q, ok, want)
	}
}

func TestP7WhatComesOutNeedNotBeRight(t *testing.T) {
	p := impl.Pipe{H: []float64{0, 7, -3, 0}, Q: []float64{10, 0, 0, 10}}
	w := impl.Waves{B: 1e308, R: 0, Head: 1}
	q, ok := hammers(t, p, w, 0)
	if want := wantHammer(p, w, 0); !ok || !samePipe(q, want) || impl.PipeOk(q) || !math.IsInf(q.H[1], 1) || !math.IsInf(q.H[2], -1) {
		t.Error("too great", q, ok, want)
	}
	p = impl.Pipe{H: []float64{4, 7, 3}, Q: []float64{10, 0, 10}}
	if q, ok := hammers(t, p, w, 0); !ok || q.H[1] == q.H[1] || q.Q[1] == q.Q[1] || q.H[2] != 7 || q.H[0] != 1 {
		t.Error("a NaN", q, ok)
	}
}

func TestP7AtRestStaysAtRest(t *testing.T) {
	for _, n := range []int{2, 3, 4, 8, 9, 17, 99, 100} {
		for _, head := range []float64{10, -10, 0.1, 1e-300, 1e300, -5e-324, 123456.789, 0} {
			for _, r := range []float64{0, 0.25, 1e300, minusZero()} {
				p, w := pipeOf(n, head, 0), impl.Waves{B: 3.7, R: r, Head: head}
				q, most, ok := impl.HammerRun(p, w, make([]float64, 5), 1+int64(n%8))
				if !ok || !samePipe(q, p) || !impl.Same(most, head) {
					t.Fatal("a pipe at rest", n, head, r, q, most, ok)
				}
			}
		}
		// Without friction a flow that is the same everywhere stays, too.
		p, w := pipeOf(n, 40, 3), impl.Waves{B: 2, R: 0, Head: 40}
		if q, most, ok := impl.HammerRun(p, w, slices.Repeat([]float64{3}, 20), 8); !ok || !samePipe(q, p) || most != 40 {
			t.Error("a steady flow", n, q, most, ok)
		}
	}
}

// wantRun: step by step, with the greatest head of all that came.
func wantRun(p impl.Pipe, w impl.Waves, valves []float64) (impl.Pipe, float64) {
	heads := slices.Clone(p.H)
	for _, valve := range valves {
		p = wantHammer(p, w, valve)
		heads = append(heads, p.H...)
	}
	most := heads[0]
	for _, h := range heads {
		if h > most {
			most = h
		}
	}
	return p, most
}

func TestP7HammerRun(t *testing.T) {
	for seed := range int64(12) {
		n := 2 + int(seed)%5
		p, w, valves := somePipe(seed, n), someWaves(seed), someValves(seed, int(3*seed%10))
		// A gentle friction, so that nothing grows too great.
		w.R /= 1000
		before, kept := pipeCopy(p), slices.Clone(valves)
		q, most, ok := impl.HammerRun(p, w, valves, 1+seed%8)
		want, wantMost := wantRun(p, w, valves)
		if !ok || !samePipe(q, want) || !impl.Same(most, wantMost) {
			t.Error("HammerRun", p, w, valves, q, most, ok, want, wantMost)
		}
		if !samePipe(p, before) || !sameFloats(valves, kept) {
			t.Error("an argument was written to", p, valves)
		}
	}
}

func TestP7RunsInTwoPiecesAreOneRun(t *testing.T) {
	p, w, valves := somePipe(4, 12), impl.Waves{B: 5.3, R: 0.0001, Head: 77}, someValves(9, 40)
	whole, most, ok := impl.HammerRun(p, w, valves, 3)
	if !ok {
		t.Fatal("a run", ok)
	}
	for cut := range len(valves) + 1 {
		first, a, ok1 := impl.HammerRun(p, w, valves[:cut], 5)
		second, b, ok2 := impl.HammerRun(first, w, valves[cut:], 8)
		if !ok1 || !ok2 || !samePipe(second, whole) || !impl.Same(max(a, b), most) {
			t.Error("two pieces", cut, first, second, a, b, most)
		}
	}
}

func TestP7HammerRunManyValves(t *testing.T) {
	p, w := pipeOf(4, 10, 1), impl.Waves{B: 2, R: 0.01, Head: 10}
	for _, n := range []int{0, 1, 499, 500} {
		q, most, ok := impl.HammerRun(p, w, make([]float64, n), 2)
		step := pipeCopy(p)
		for range n {
			step, _ = impl.Hammer(step, w, 0, 1)
		}
		if !ok || !samePipe(q, step) || most < 10 {
			t.Error("valves", n, q, most, ok)
		}
	}
	for _, n := range []int{501, 502, 2000} {
		if q, most, ok := impl.HammerRun(p, w, make([]float64, n), 2); ok || !emptyPipe(q) || !impl.Same(most, 0) {
			t.Error("too many valves", n, q, most, ok)
		}
	}
}

func TestP7HammerRunRefusesAStepBehindOthers(t *testing.T) {
	p, w := pipeOf(4, 10, 1), impl.Waves{B: 2, R: 0.01, Head: 10}
	for _, wrong := range unknowns() {
		for at := range 6 {
			valves := make([]float64, 6)
			valves[at] = wrong
			if q, most, ok := impl.HammerRun(p, w, valves, 2); ok || !emptyPipe(q) || !impl.Same(most, 0) {
				t.Error("a valve that is not known", at, wrong, q, most, ok)
			}
		}
	}
	// The first step makes a pipe that is not right: as the last one it is told, ahead of another one it is not.
	p = impl.Pipe{H: []float64{4, 7, 3}, Q: []float64{10, 0, 10}}
	w = impl.Waves{B: 1e308, R: 0, Head: 1}
	if q, _, ok := impl.HammerRun(p, w, []float64{0}, 2); !ok || !samePipe(q, wantHammer(p, w, 0)) || impl.PipeOk(q) {
		t.Error("the last step", q, ok)
	}
	if q, most, ok := impl.HammerRun(p, w, []float64{0, 0}, 2); ok || !emptyPipe(q) || !impl.Same(most, 0) {
		t.Error("a step of a pipe that is not right", q, most, ok)
	}
}

func TestP7TheGreatestHead(t *testing.T) {
	gentle, wild := impl.Waves{B: 1, R: 0, Head: -9}, impl.Waves{B: 1e308, R: 0, Head: 1}
	falls := impl.Waves{B: 1, R: 0, Head: minusZero()}
	for _, c := range []struct {
		p      impl.Pipe
		w      impl.Waves
		valves []float64
		most   float64
	}{
		{impl.Pipe{H: []float64{minusZero(), 0}, Q: []float64{0, 0}}, gentle, nil, minusZero()},
		{impl.Pipe{H: []float64{0, minusZero()}, Q: []float64{0, 0}}, gentle, nil, 0},
		{impl.Pipe{H: []float64{-1, minusZero(), 0}, Q: []float64{0, 0, 0}}, gentle, nil, minusZero()},
		{impl.Pipe{H: []float64{-1, 0, minusZero()}, Q: []float64{0, 0, 0}}, gentle, nil, 0},
		{impl.Pipe{H: []float64{-5, -3, -4}, Q: []float64{0, 0, 0}}, gentle, nil, -3},
		{impl.Pipe{H: []float64{5, 3, 4}, Q: []float64{0, 0, 0}}, gentle, nil, 5},
		{impl.Pipe{H: []float64{5, 3, 6}, Q: []float64{0, 0, 0}}, gentle, nil, 6},
		// -0 comes behind a step, and what was there before is below it, or is 0.
		{impl.Pipe{H: []float64{-5, -5}, Q: []float64{0, 0}}, falls, []float64{0}, minusZero()},
		{impl.Pipe{H: []float64{-5, 0}, Q: []float64{0, 0}}, falls, []float64{0}, 0},
		{impl.Pipe{H: []float64{-5, minusZero()}, Q: []float64{0, 0}}, impl.Waves{B: 1}, []float64{0}, minusZero()},
		{impl.Pipe{H: []float64{-5, -5}, Q: []float64{0, 0}}, impl.Waves{B: 1}, []float64{0}, 0},
		// It was there once, and goes again.
		{impl.Pipe{H: []float64{10, 10, 10}, Q: []float64{1, 1, 1}}, impl.Waves{B: 2, Head: 10}, []float64{0, 0, 0, 0, 0}, 12},
		{impl.Pipe{H: []float64{-9, 50, -9}, Q: []float64{0, 0, 0}}, gentle, []float64{0, 0}, 50},
		// NaNs and infinities of the last step.
		{impl.Pipe{H: []float64{4, 7, 3}, Q: []float64{10, 0, 10}}, wild, []float64{0}, 7},
		{impl.Pipe{H: []float64{0, 7, -3, 0}, Q: []float64{10, 0, 0, 10}}, wild, []float64{0}, math.Inf(1)},
		{impl.Pipe{H: []float64{-4, -7, -3}, Q: []float64{-10, 0, -10}}, impl.Waves{B: 1e308, R: 0, Head: -8}, []float64{0}, -3},
	} {
		for _, workers := range []int64{1, 2, 8} {
			if _, most, ok := impl.HammerRun(c.p, c.w, c.valves, workers); !ok || !impl.Same(most, c.most) {
				t.Error("the greatest head", c.p, c.w, c.valves, most, ok, c.most)
			}
		}
	}
}

func TestP7PipesShareNoMemory(t *testing.T) {
	// One row of numbers with the pipe in it and room behind: neither it nor the room is written to.
	row := somePipe(3, 40).H
	before := slices.Clone(row)
	p, w := impl.Pipe{H: row[2:12], Q: row[20:30]}, impl.Waves{B: 2, R: 0.0001, Head: 10}
	q, ok := impl.Hammer(p, w, 1, 3)
	r, _, also := impl.HammerRun(p, w, nil, 3)
	s, _, third := impl.HammerRun(p, w, []float64{1, 2}, 3)
	if !ok || !also || !third || !samePipe(r, p) {
		t.Fatal("a pipe of a longer row", ok, also, third)
	}
	for _, answer := range []impl.Pipe{q, r, s} {
		heads := slices.Clone(answer.H)
		for i := range answer.Q {
			answer.Q[i] = -77
		}
		_ = append(answer.Q, -77)
		if !sameFloats(answer.H, heads) {
			t.Error("heads share with flows")
		}
		for i := range answer.H {
			answer.H[i] = -77
		}
		_ = append(answer.H, -77)
	}
	if !sameFloats(row, before) {
		t.Error("a pipe's memory is shared", row, before)
	}
	// Heads and flows that are one list.
	both := impl.Pipe{H: row[:5], Q: row[:5]}
	if q, ok := hammers(t, both, w, 1); !ok || !samePipe(q, wantHammer(both, w, 1)) {
		t.Error("one list twice", q, ok)
	}
}

const mostStore = 1000000000000
const mostDay = 1000000000

func basinFields(b *impl.Basin) []*int64 {
	return []*int64{&b.Store, &b.In, &b.Out, &b.Spilt}
}

// basinOf: one with a balanced book.
func basinOf(store int64, out int64, spilt int64) impl.Basin {
	return impl.Basin{Store: store, In: store + out + spilt, Out: out, Spilt: spilt}
}

func flatRule(y int64) []impl.Knot {
	return line(0, y, 10, y)
}

func wrongBasins() []impl.Basin {
	list := []impl.Basin{
		{Store: 1}, {In: 1}, {Out: 1}, {Spilt: 1}, {Store: 1, In: 2}, {Store: 2, In: 1}, {Store: 1, In: 1, Out: 1}, {Store: 1, In: 1, Spilt: 1},
		{Store: 5, In: 10, Out: 5, Spilt: 1}, {Store: 5, In: 10, Out: 3, Spilt: 1}, {Store: 7, In: 5, Out: -2}, {Store: 7, In: 5, Spilt: -2},
		basinOf(-1, 5, 0), basinOf(5, -1, 0), basinOf(5, 0, -1), basinOf(-1, 1, 0),
		basinOf(mostStore+1, 0, 0), basinOf(0, mostStore+1, 0), basinOf(0, 0, mostStore+1),
		basinOf(mostStore, 1, 0), basinOf(mostStore, 0, 1), basinOf(1, mostStore, 0), basinOf(0, mostStore, 1), basinOf(0, 1, mostStore),
		{Store: math.MinInt64, In: 0, Out: math.MinInt64}, {Store: math.MinInt64, In: math.MaxInt64, Out: -1},
		basinOf(math.MinInt64, math.MaxInt64, 1), basinOf(math.MaxInt64, 1, 0),
	}
	for i := range 4 {
		for _, n := range []int64{-1, mostStore + 1, math.MinInt64, math.MaxInt64} {
			b := basinOf(50, 20, 7)
			*basinFields(&b)[i] = n
			list = append(list, b)
		}
	}
	return list
}

// wantBasin moves what flows in one sum after the other, the book by the words of the chapter.
func wantBasin(b impl.Basin, full int64, along int64, w impl.Water) impl.Basin {
	store := b.Store + w.Inflow
	above := store - along
	if above < w.Want {
		above = w.Want
	}
	if above > store {
		above = store
	}
	left := store - above
	spilt := int64(0)
	if left > full {
		left, spilt = full, left-full
	}
	return impl.Basin{Store: left, In: b.In + w.Inflow, Out: b.Out + above, Spilt: b.Spilt + spilt}
}

func TestP7TheBasinsBookIsBalanced(t *testing.T) {
	rules := [][]impl.Knot{flatRule(50), flatRule(0), flatRule(-30), line(0, 0, 10, 200), line(-5, 300, 3, -40, 10, 90)}
	for _, rule := range rules {
		for _, b := range []impl.Basin{{}, basinOf(1, 0, 0), basinOf(49, 3, 4), basinOf(50, 0, 9), basinOf(51, 7, 0), basinOf(1000, 20, 30)} {
			for _, full := range []int64{0, 1, 40, 50, 60, 1000, mostStore} {
				for _, inflow := range []int64{0, 1, 30, 777} {
					for _, want := range []int64{0, 1, 20, 60, 5000} {
						for day := int64(0); day <= 10; day += 2 {
							w := impl.Water{Inflow: inflow, Want: want, Day: day}
							c, ok := impl.BasinStep(b, full, rule, w)
							along, _ := wantAlong(rule, day)
							if wish := wantBasin(b, full, along, w); !ok || c != wish {
								t.Fatal("BasinStep", b, full, rule, w, c, ok, wish)
							}
							if c.Store != c.In-c.Out-c.Spilt || c.Store < 0 || c.Store > full || c.In-b.In != inflow || c.Out < b.Out || c.Spilt < b.Spilt {
								t.Fatal("the book", b, full, rule, w, c)
							}
						}
					}
				}
			}
		}
	}
}

func TestP7BasinTold(t *testing.T) {
	for _, c := range []struct {
		b    impl.Basin
		full int64
		rule []impl.Knot
		w    impl.Water
		want impl.Basin
	}{
		{impl.Basin{}, 0, flatRule(0), impl.Water{}, impl.Basin{}},
		// What is wanted is more than what is above the rule, less than it, and more than there is.
		{basinOf(100, 0, 0), 500, flatRule(90), impl.Water{Want: 20}, basinOf(80, 20, 0)},
		{basinOf(100, 0, 0), 500, flatRule(70), impl.Water{Want: 20}, basinOf(70, 30, 0)},
		{basinOf(100, 0, 0), 500, flatRule(80), impl.Water{Want: 20}, basinOf(80, 20, 0)},
		{basinOf(100, 0, 0), 500, flatRule(90), impl.Water{Want: 101}, basinOf(0, 100, 0)},
		{basinOf(100, 0, 0), 500, flatRule(200), impl.Water{}, basinOf(100, 0, 0)},
		// A rule below 0 empties it, no more.
		{basinOf(100, 0, 0), 500, flatRule(-1), impl.Water{}, basinOf(0, 100, 0)},
		{basinOf(100, 0, 0), 500, flatRule(-1000000), impl.Water{Inflow: 3, Want: 5}, basinOf(0, 103, 0)},
		// What comes in may go out on the same day, and is spilt only where it is left.
		{basinOf(0, 0, 0), 10, flatRule(1000), impl.Water{Inflow: 30, Want: 25}, basinOf(5, 25, 0)},
		{basinOf(0, 0, 0), 10, flatRule(1000), impl.Water{Inflow: 30, Want: 20}, basinOf(10, 20, 0)},
		{basinOf(0, 0, 0), 10, flatRule(1000), impl.Water{Inflow: 30, Want: 19}, basinOf(10, 19, 1)},
		{basinOf(100, 0, 2), 0, flatRule(1000), impl.Water{}, basinOf(0, 0, 102)},
		// The rule of the day, between its knots rounded down.
		{basinOf(100, 0, 0), 500, line(0, 0, 10, 95), impl.Water{Day: 5}, basinOf(47, 53, 0)},
		{basinOf(100, 0, 0), 500, line(0, 0, 10, 95), impl.Water{Day: 10}, basinOf(95, 5, 0)},
		{basinOf(100, 0, 0), 500, line(0, 0, 10, 95), impl.Water{Day: 0}, basinOf(0, 100, 0)},
		{basinOf(100, 0, 0), 500, line(-9, 8, 10, 95), impl.Water{Day: -9}, basinOf(8, 92, 0)},
		// The ends of all bounds.
		{basinOf(mostStore, 0, 0), mostStore, flatRule(1000000), impl.Water{Want: mostDay}, basinOf(1000000, mostStore-1000000, 0)},
		{basinOf(0, mostStore, 0), mostStore, flatRule(0), impl.Water{Want: mostDay}, basinOf(0, mostStore, 0)},
		{basinOf(0, 0, mostStore), 0, flatRule(0), impl.Water{}, basinOf(0, 0, mostStore)},
		{basinOf(mostStore-mostDay, 0, 0), mostStore, flatRule(0), impl.Water{Inflow: mostDay, Want: mostDay}, basinOf(0, mostStore, 0)},
		{basinOf(0, mostStore-1, 0), mostStore, flatRule(5), impl.Water{Inflow: 1}, basinOf(1, mostStore-1, 0)},
	} {
		if got, ok := impl.BasinStep(c.b, c.full, c.rule, c.w); !ok || got != c.want {
			t.Error("BasinStep", c.b, c.full, c.rule, c.w, got, ok, c.want)
		}
	}
}

func TestP7BasinRefuses(t *testing.T) {
	good, rule := basinOf(50, 20, 7), flatRule(10)
	refused := func(b impl.Basin, full int64, rule []impl.Knot, w impl.Water) {
		t.Helper()
		if c, ok := impl.BasinStep(b, full, rule, w); ok || c != (impl.Basin{}) {
			t.Error("BasinStep", b, full, rule, w, c, ok)
		}
	}
	for _, b := range wrongBasins() {
		refused(b, 100, rule, impl.Water{})
		for _, list := range [][]impl.Water{nil, {{}}} {
			if c, n := impl.BasinRun(b, 100, rule, list); n != -1 || c != (impl.Basin{}) {
				t.Error("BasinRun", b, list, c, n)
			}
		}
	}
	for _, n := range []int64{-1, mostDay + 1, math.MinInt64, math.MaxInt64} {
		refused(good, 100, rule, impl.Water{Inflow: n})
		refused(good, 100, rule, impl.Water{Want: n})
	}
	for _, full := range []int64{-1, mostStore + 1, math.MinInt64, math.MaxInt64} {
		refused(good, full, rule, impl.Water{})
	}
	for _, day := range []int64{-1, 11, math.MinInt64, math.MaxInt64} {
		refused(good, 100, rule, impl.Water{Day: day})
	}
	for _, c := range wrongCurves() {
		refused(good, 100, c, impl.Water{})
		refused(good, 100, c, impl.Water{Day: 1})
	}
	refused(basinOf(mostStore, 0, 0), mostStore, rule, impl.Water{Inflow: 1})
	refused(basinOf(mostStore-mostDay+1, 0, 0), mostStore, rule, impl.Water{Inflow: mostDay})
	refused(basinOf(0, mostStore, 0), mostStore, rule, impl.Water{Inflow: 1, Want: 1})
}

func someWater(n int) []impl.Water {
	list := make([]impl.Water, n)
	in, want, day := someNumbers(1, n, 0, 90), someNumbers(2, n, 0, 100), someNumbers(3, n, 0, 10)
	for i := range list {
		list[i] = impl.Water{Inflow: in[i], Want: want[i], Day: day[i]}
	}
	return list
}

func TestP7BasinRunsInTwoPieces(t *testing.T) {
	rule, list := line(0, 20, 4, 180, 10, 60), someWater(60)
	kept, knots := slices.Clone(list), slices.Clone(rule)
	b := basinOf(75, 3, 1)
	whole, n := impl.BasinRun(b, 60, rule, list)
	if n != 60 || whole.Spilt == 1 || whole.Out == 3 {
		t.Fatal("a run", whole, n)
	}
	step := b
	for i, w := range list {
		part, done := impl.BasinRun(b, 60, rule, list[:i])
		if done != int64(i) || part != step {
			t.Error("a beginning", i, part, done, step)
		}
		if rest, done := impl.BasinRun(part, 60, rule, list[i:]); done != int64(60-i) || rest != whole {
			t.Error("two pieces", i, rest, done, whole)
		}
		step, _ = impl.BasinStep(step, 60, rule, w)
	}
	if step != whole || !slices.Equal(list, kept) || !slices.Equal(rule, knots) {
		t.Error("a run is its steps and writes to nothing", step, whole)
	}
}

func TestP7BasinRunsThatStop(t *testing.T) {
	b, rule := basinOf(75, 3, 1), flatRule(50)
	for _, n := range []int{0, 1, 499, 500} {
		if c, done := impl.BasinRun(b, 100, rule, someWater(n)); done != int64(n) || (n == 0 && c != b) || c.Store != c.In-c.Out-c.Spilt {
			t.Error("days", n, c, done)
		}
	}
	for _, n := range []int{501, 600, 3000} {
		if c, done := impl.BasinRun(b, 100, rule, someWater(n)); done != -1 || c != (impl.Basin{}) {
			t.Error("too many days", n, c, done)
		}
	}
	for _, wrong := range []impl.Water{{Day: 11}, {Day: -1}, {Inflow: -1}, {Inflow: mostDay + 1}, {Want: -1}, {Want: mostDay + 1}} {
		for at := range 5 {
			list := someWater(5)
			want, _ := impl.BasinRun(b, 100, rule, list[:at])
			list[at] = wrong
			if c, done := impl.BasinRun(b, 100, rule, list); done != int64(at) || c != want {
				t.Error("a day that is refused", wrong, at, c, done, want)
			}
		}
	}
	// What is wrong for all days refuses the first of them, and nothing when there is none.
	for _, list := range [][]impl.Water{nil, someWater(3)} {
		if c, done := impl.BasinRun(b, -1, rule, list); done != 0 || c != b {
			t.Error("a full that is none", c, done)
		}
		if c, done := impl.BasinRun(b, 100, nil, list); done != 0 || c != b {
			t.Error("a rule that is none", c, done)
		}
	}
	// So much comes in that In has no more room.
	late := basinOf(5, mostStore-105, 0)
	if c, done := impl.BasinRun(late, 100, rule, []impl.Water{{Inflow: 60}, {Inflow: 40}, {Inflow: 1}}); done != 2 || c.In != mostStore {
		t.Error("no more room", c, done)
	}
}
