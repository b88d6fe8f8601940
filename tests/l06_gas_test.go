package tests

import (
	"math"
	"reflect"
	"slices"
	"testing"

	"loop.example/g00062/impl"
)

func speedLine(speed int64, points ...int64) impl.SpeedLine {
	return impl.SpeedLine{Speed: speed, Points: line(points...)}
}

// linesOf: n lines, each a little further and higher than the one below.
func linesOf(n int) []impl.SpeedLine {
	var m []impl.SpeedLine
	for i := range int64(n) {
		m = append(m, speedLine(100+37*i, 10+3*i, 900+11*i, 30+5*i, 700+13*i, 60+7*i, 301-i))
	}
	return m
}

func rightMaps() [][]impl.SpeedLine {
	const most = 1000000
	return [][]impl.SpeedLine{
		linesOf(1), linesOf(2), linesOf(11), linesOf(12),
		{speedLine(1, -20, 5, 9, -7, 10, 0), speedLine(100000, -17, 0, 30, 1)},
		{speedLine(5, 0, 100, 3, 50, 10, 51), speedLine(6, 20, 1, 22, 0), speedLine(17, 8, 2, 9, 2, 60, -9)},
		{speedLine(1, -most, most, most, -most), speedLine(100000, -most, -most, most, most)},
		{{Speed: 7, Points: knotsOf(60)}, {Speed: 10, Points: knotsOf(2)}},
	}
}

func wrongMaps() [][]impl.SpeedLine {
	all := [][]impl.SpeedLine{
		nil, {}, linesOf(13), linesOf(40),
		{speedLine(0, 1, 2, 3, 4)}, {speedLine(100001, 1, 2, 3, 4)}, {speedLine(-5, 1, 2, 3, 4)},
		{speedLine(5, 1, 2, 3, 4), speedLine(5, 1, 2, 3, 4)}, {speedLine(5, 1, 2, 3, 4), speedLine(4, 1, 2, 3, 4)},
		{speedLine(5, 1, 2, 3, 4), speedLine(9, 1, 2, 3, 4), speedLine(9, 1, 2, 3, 4)},
		{speedLine(5, 1, 2, 3, 4), speedLine(100001, 1, 2, 3, 4)},
		{speedLine(math.MinInt64, 1, 2, 3, 4), speedLine(5, 1, 2, 3, 4), speedLine(math.MaxInt64, 1, 2, 3, 4)},
	}
	for _, c := range wrongCurves() {
		all = append(all, []impl.SpeedLine{{Speed: 5, Points: c}},
			[]impl.SpeedLine{speedLine(5, 1, 2, 3, 4), {Speed: 9, Points: c}, speedLine(20, 1, 2, 3, 4)})
	}
	return all
}

// partOf: from, and of the rise the part done by whole, each operation rounded by itself.
func partOf(from float64, rise float64, done int64, whole int64) float64 {
	q := rounded(float64(done), '/', float64(whole))
	return rounded(from, '+', rounded(rise, '*', q))
}

func wantOnLine(l impl.SpeedLine, flow int64) float64 {
	for i, k := range l.Points {
		if k.X == flow {
			return float64(k.Y)
		}
		if i > 0 && l.Points[i-1].X < flow && flow < k.X {
			from := l.Points[i-1]
			return partOf(float64(from.Y), float64(k.Y-from.Y), flow-from.X, k.X-from.X)
		}
	}
	return math.NaN()
}

// wantRead: what of says of the line, or between the lines, of a right map.
func wantRead(m []impl.SpeedLine, speed int64, of func(impl.SpeedLine) float64) float64 {
	for i, l := range m {
		if l.Speed == speed {
			return of(l)
		}
		if i > 0 && m[i-1].Speed < speed && speed < l.Speed {
			a, b := of(m[i-1]), of(l)
			if math.IsNaN(a) || math.IsNaN(b) {
				return math.NaN()
			}
			return partOf(a, rounded(b, '-', a), speed-m[i-1].Speed, l.Speed-m[i-1].Speed)
		}
	}
	return math.NaN()
}

func wantRatio(m []impl.SpeedLine, speed int64, flow int64) float64 {
	return wantRead(m, speed, func(l impl.SpeedLine) float64 { return wantOnLine(l, flow) })
}

func wantSurge(m []impl.SpeedLine, speed int64) float64 {
	return wantRead(m, speed, func(l impl.SpeedLine) float64 { return float64(l.Points[0].X) })
}

// speedsOf: those of the lines, between them and outside.
func speedsOf(m []impl.SpeedLine) []int64 {
	speeds := []int64{math.MinInt64, -1, 0, math.MaxInt64}
	for i, l := range m {
		speeds = append(speeds, l.Speed-1, l.Speed, l.Speed+1)
		if i > 0 {
			speeds = append(speeds, (m[i-1].Speed+l.Speed)/2, (m[i-1].Speed+2*l.Speed)/3)
		}
	}
	return speeds
}

func flowsOf(m []impl.SpeedLine) []int64 {
	flows := []int64{math.MinInt64, 0, math.MaxInt64}
	for _, l := range m {
		for i, k := range l.Points {
			flows = append(flows, k.X-1, k.X, k.X+1)
			if i > 0 {
				flows = append(flows, (l.Points[i-1].X+2*k.X)/3)
			}
		}
	}
	return flows
}

func mapCopy(m []impl.SpeedLine) []impl.SpeedLine {
	out := slices.Clone(m)
	for i := range out {
		out[i].Points = slices.Clone(out[i].Points)
	}
	return out
}

func TestP6MapOk(t *testing.T) {
	if impl.MaxLines != 12 {
		t.Error("MaxLines", impl.MaxLines)
	}
	for _, m := range rightMaps() {
		if !impl.MapOk(m) {
			t.Error("a right map", m)
		}
	}
	for _, m := range wrongMaps() {
		if impl.MapOk(m) {
			t.Error("a wrong map", m)
		}
		for _, speed := range []int64{0, 1, 5, 7, 9, 100, 100000} {
			for _, flow := range []int64{0, 1, 2, 3} {
				if r := impl.RatioAt(m, speed, flow); r == r {
					t.Error("the ratio of no map", m, speed, flow, r)
				}
				if g := impl.Margin(m, speed, flow); g == g {
					t.Error("the margin of no map", m, speed, flow, g)
				}
			}
			if s := impl.SurgeAt(m, speed); s == s {
				t.Error("the surge of no map", m, speed, s)
			}
			if at := impl.Surges(m, []int64{speed}, []int64{math.MinInt64}); at != -1 {
				t.Error("surges of no map", m, speed, at)
			}
		}
	}
}

func TestP6RatioAt(t *testing.T) {
	for _, m := range rightMaps() {
		before := mapCopy(m)
		told := 0
		for _, speed := range speedsOf(m) {
			for _, flow := range flowsOf(m) {
				r, want := impl.RatioAt(m, speed, flow), wantRatio(m, speed, flow)
				if !impl.Same(r, want) {
					t.Fatal("RatioAt", m, speed, flow, r, want)
				}
				if r == r {
					told++
				}
			}
		}
		if told == 0 || !reflect.DeepEqual(m, before) {
			t.Error("no ratio told, or the map written to", m, told)
		}
	}
}

func TestP6OnPointsTheRatioIsThePoints(t *testing.T) {
	for _, m := range rightMaps() {
		for _, l := range m {
			for _, k := range l.Points {
				if r := impl.RatioAt(m, l.Speed, k.X); !impl.Same(r, float64(k.Y)) {
					t.Error("on a point", l, k, r)
				}
			}
			first, last := l.Points[0].X, l.Points[len(l.Points)-1].X
			for _, flow := range []int64{first - 1, last + 1, math.MinInt64, math.MaxInt64} {
				if r := impl.RatioAt(m, l.Speed, flow); r == r {
					t.Error("outside of the line", l, flow, r)
				}
			}
		}
		for _, speed := range []int64{m[0].Speed - 1, m[len(m)-1].Speed + 1, math.MinInt64, math.MaxInt64} {
			if r := impl.RatioAt(m, speed, m[0].Points[0].X); r == r {
				t.Error("outside of the lines", m, speed, r)
			}
		}
	}
}

func TestP6WhatBothLinesHaveStays(t *testing.T) {
	for _, points := range [][]int64{{3, 7, 50, -20}, {0, 0, 9, 1, 14, 0}, {-5, 333333, 100, 1}} {
		m := []impl.SpeedLine{speedLine(10, points...), speedLine(17, points...), speedLine(400, points...)}
		for speed := int64(10); speed <= 400; speed++ {
			for flow := points[0]; flow <= points[len(points)-2]; flow++ {
				if r := impl.RatioAt(m, speed, flow); !impl.Same(r, wantOnLine(m[0], flow)) {
					t.Fatal("lines that are the same", points, speed, flow, r)
				}
			}
			if s := impl.SurgeAt(m, speed); !impl.Same(s, float64(points[0])) {
				t.Fatal("surge lines that are the same", points, speed, s)
			}
		}
	}
}

func TestP6RatioTold(t *testing.T) {
	m := []impl.SpeedLine{speedLine(10, 0, 10, 3, 0), speedLine(13, 2, 100, 5, 40), speedLine(20, 3, 0, 4, -1)}
	for _, c := range []struct {
		speed, flow int64
		ratio       float64
	}{
		{10, 0, 10}, {10, 3, 0}, {10, 2, wantOnLine(m[0], 2)}, {10, 1, 6.666666666666667}, {13, 3, 80}, {20, 4, -1},
		{10, -1, math.NaN()}, {10, 4, math.NaN()}, {9, 2, math.NaN()}, {21, 3, math.NaN()},
		// The upper line has no 1, the lower one no 4: what one of the two has not is not told.
		{11, 1, math.NaN()}, {11, 4, math.NaN()}, {11, 3, 26.666666666666664}, {12, 3, 53.33333333333333},
		{19, 2, math.NaN()}, {19, 5, math.NaN()}, {19, 3, 11.42857142857143},
	} {
		if r := impl.RatioAt(m, c.speed, c.flow); !impl.Same(r, c.ratio) {
			t.Error("RatioAt", c.speed, c.flow, r, c.ratio)
		}
	}
}

func TestP6SurgeAndMargin(t *testing.T) {
	for _, m := range rightMaps() {
		before := mapCopy(m)
		for _, speed := range speedsOf(m) {
			s, want := impl.SurgeAt(m, speed), wantSurge(m, speed)
			if !impl.Same(s, want) {
				t.Fatal("SurgeAt", m, speed, s, want)
			}
			for _, flow := range flowsOf(m) {
				margin := math.NaN()
				if want > 0 {
					margin = rounded(rounded(float64(flow), '-', want), '/', want)
				}
				if g := impl.Margin(m, speed, flow); !impl.Same(g, margin) {
					t.Fatal("Margin", m, speed, flow, g, margin)
				}
			}
		}
		if !reflect.DeepEqual(m, before) {
			t.Error("the map was written to", m)
		}
	}
}

func TestP6MarginTold(t *testing.T) {
	m := []impl.SpeedLine{speedLine(10, 0, 10, 3, 0), speedLine(14, 8, 1, 9, 1), speedLine(18, -8, 1, 9, 1), speedLine(20, 4, 3, 5, 6),
		speedLine(26, 1, 3, 5, 6), speedLine(28, 0, 3, 5, 6)}
	for _, c := range []struct {
		speed, flow int64
		surge       float64
		margin      float64
	}{
		{10, 5, 0, math.NaN()}, {11, 3, 2, 0.5}, {12, 2, 4, -0.5}, {14, 8, 8, 0}, {14, 0, 8, -1}, {15, 5, 4, 0.25},
		{16, 5, 0, math.NaN()}, {17, 5, -4, math.NaN()}, {18, 5, -8, math.NaN()}, {19, 5, -2, math.NaN()}, {20, 4, 4, 0},
		{26, 1, 1, 0}, {26, 0, 1, -1}, {27, 2, 0.5, 3}, {28, 2, 0, math.NaN()},
		{9, 5, math.NaN(), math.NaN()}, {29, 5, math.NaN(), math.NaN()},
		{14, math.MaxInt64, 8, 1152921504606846975}, {14, math.MinInt64, 8, -1152921504606846977},
	} {
		if s := impl.SurgeAt(m, c.speed); !impl.Same(s, c.surge) {
			t.Error("SurgeAt", c.speed, s, c.surge)
		}
		if g := impl.Margin(m, c.speed, c.flow); !impl.Same(g, c.margin) {
			t.Error("Margin", c.speed, c.flow, g, c.margin)
		}
	}
}

func TestP6WhatSurgesLiesBelowTheSurgeLine(t *testing.T) {
	for _, m := range rightMaps() {
		all := flowsOf(m)
		var speeds, flows []int64
		for i, speed := range speedsOf(m) {
			speeds = append(speeds, speed, speed)
			flows = append(flows, all[i%len(all)], all[(7*i+3)%len(all)])
		}
		speeds, flows = speeds[:min(len(speeds), 400)], flows[:min(len(flows), 400)]
		for from := range speeds {
			want := int64(-1)
			for i := len(speeds) - 1; i >= from; i-- {
				if s := wantSurge(m, speeds[i]); float64(flows[i]) < s {
					want = int64(i - from)
				}
			}
			if at := impl.Surges(m, speeds[from:], flows[from:]); at != want {
				t.Fatal("Surges", m, from, at, want)
			}
		}
	}
}

func TestP6SurgesTold(t *testing.T) {
	m := []impl.SpeedLine{speedLine(100, 10, 200, 20, 100), speedLine(102, 11, 400, 40, 300)}
	const least = math.MinInt64
	for _, c := range []struct {
		speeds, flows []int64
		at            int64
	}{
		{nil, nil, -1}, {[]int64{100}, []int64{10}, -1}, {[]int64{100}, []int64{9}, 0},
		{[]int64{101}, []int64{11}, -1}, {[]int64{101}, []int64{10}, 0}, {[]int64{102}, []int64{11}, -1}, {[]int64{102}, []int64{10}, 0},
		{[]int64{99, 103, 100}, []int64{least, least, 9}, 2}, {[]int64{99, 103}, []int64{0, 0}, -1},
		{[]int64{100, 100, 100}, []int64{10, 9, 8}, 1},
		{[]int64{100}, nil, -1}, {nil, []int64{1}, -1}, {[]int64{100}, []int64{1, 1}, -1}, {[]int64{100, 100}, []int64{1}, -1},
	} {
		if at := impl.Surges(m, c.speeds, c.flows); at != c.at {
			t.Error("Surges", c.speeds, c.flows, at)
		}
	}
	for _, c := range []struct {
		n  int
		at int64
	}{{399, 398}, {400, 399}, {401, -1}, {500, -1}} {
		speeds, flows := slices.Repeat([]int64{100}, c.n), slices.Repeat([]int64{10}, c.n)
		flows[c.n-1] = 9
		if at := impl.Surges(m, speeds, flows); at != c.at {
			t.Error("Surges of many", c.n, at)
		}
		if flows[0] = 9; c.n > 400 && impl.Surges(m, speeds, flows) != -1 {
			t.Error("too many places", c.n)
		}
	}
}
