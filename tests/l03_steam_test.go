package tests

import (
	"math"
	"math/big"
	"slices"
	"testing"

	"loop.example/g00062/impl"
)

// line: knots from rows of X, Y, X, Y ..
func line(numbers ...int64) []impl.Knot {
	var c []impl.Knot
	for i := 0; i < len(numbers); i += 2 {
		c = append(c, impl.Knot{X: numbers[i], Y: numbers[i+1]})
	}
	return c
}

// knotsOf: n knots, X rising by 3 and Y by 2.
func knotsOf(n int) []impl.Knot {
	var c []impl.Knot
	for i := range n {
		c = append(c, impl.Knot{X: int64(3*i - 50), Y: int64(2*i - 40)})
	}
	return c
}

func rightCurves() [][]impl.Knot {
	return [][]impl.Knot{
		line(0, 0, 10, 5),
		line(0, 0, 10, -5),
		line(-7, -3, -1, 40, 0, 41, 13, 42),
		line(-7, 40, -1, -3, 0, -3, 13, 7),
		line(0, 0, 1, 0),
		line(5, 9, 6, -9, 7, 9),
		line(-20, -100, 20, -90, 50, -1, 51, 100),
		line(-20, 5, 30, 7, 31, 300, 100, 301),
		knotsOf(2), knotsOf(59), knotsOf(60),
	}
}

func wrongCurves() [][]impl.Knot {
	const most = 1000000
	return [][]impl.Knot{
		nil, {}, knotsOf(1), knotsOf(61), knotsOf(100),
		line(0, 0, 0, 5), line(0, 0, -1, 5), line(0, 0, 5, 5, 5, 6), line(0, 0, 5, 5, 4, 6), line(1, 0, 2, 5, 1, 6),
		line(-most-1, 0, 5, 5), line(0, -most-1, 5, 5), line(0, 0, most+1, 5), line(0, 0, 5, most+1),
		line(0, most+1, 5, 5), line(0, 0, 5, -most-1),
		line(math.MinInt64, 0, math.MaxInt64, 5), line(0, math.MinInt64, 5, math.MaxInt64),
	}
}

// wantAlong: by fractions of big numbers, each knot looked at by itself.
func wantAlong(c []impl.Knot, x int64) (int64, bool) {
	for i, k := range c {
		if k.X == x {
			return k.Y, true
		}
		if i == 0 || x < c[i-1].X || x > k.X {
			continue
		}
		top := new(big.Int).Mul(big.NewInt(k.Y-c[i-1].Y), big.NewInt(x-c[i-1].X))
		// Euclid's quotient goes down, as the divisor is above 0.
		q := top.Div(top, big.NewInt(k.X-c[i-1].X))
		return c[i-1].Y + q.Int64(), true
	}
	return 0, false
}

func risesInY(c []impl.Knot) bool {
	for i := 1; i < len(c); i++ {
		if c[i].Y <= c[i-1].Y {
			return false
		}
	}
	return true
}

func TestP3Constants(t *testing.T) {
	if impl.MaxKnots != 60 || impl.StWater != 1 || impl.StWet != 2 || impl.StSteam != 3 {
		t.Error("a constant", impl.MaxKnots, impl.StWater, impl.StWet, impl.StSteam)
	}
}

func TestP3CurveOk(t *testing.T) {
	for _, c := range rightCurves() {
		if !impl.CurveOk(c) {
			t.Error("a right curve", c)
		}
	}
	for _, c := range wrongCurves() {
		if impl.CurveOk(c) {
			t.Error("a wrong curve", c)
		}
		for _, n := range []int64{0, 1, 5, -1} {
			if y, ok := impl.Along(c, n); ok || y != 0 {
				t.Error("Along", c, n, y, ok)
			}
			if x, ok := impl.Back(c, n); ok || x != 0 {
				t.Error("Back", c, n, x, ok)
			}
		}
	}
	const most = 1000000
	for _, c := range [][]impl.Knot{line(-most, 0, most, 5), line(0, -most, 5, most), line(0, most, 5, -most)} {
		if !impl.CurveOk(c) {
			t.Error("bounds that are met", c)
		}
	}
}

func TestP3Along(t *testing.T) {
	for _, c := range rightCurves() {
		first, last := c[0].X, c[len(c)-1].X
		for x := first - 3; x <= last+3; x++ {
			want, wantOk := wantAlong(c, x)
			if y, ok := impl.Along(c, x); y != want || ok != wantOk || ok != (x >= first && x <= last) {
				t.Fatal("Along", c, x, y, ok, want)
			}
		}
		for _, x := range []int64{math.MinInt64, math.MaxInt64} {
			if y, ok := impl.Along(c, x); ok || y != 0 {
				t.Error("Along far off", c, x, y, ok)
			}
		}
	}
}

func TestP3AlongTold(t *testing.T) {
	const most = 1000000
	for _, c := range []struct {
		c    []impl.Knot
		x, y int64
	}{
		{line(0, 0, 10, 5), 1, 0}, {line(0, 0, 10, 5), 9, 4},
		{line(0, 0, 10, -5), 1, -1}, {line(0, 0, 10, -5), 2, -1}, {line(0, 0, 10, -5), 9, -5},
		{line(0, -5, 10, 0), 1, -5}, {line(0, 5, 3, 4), 1, 4}, {line(0, 5, 3, 4), 2, 4},
		{line(-most, -most, most, most), 7, 7}, {line(-most, most, most, -most), 7, -7},
		{line(-most, -most, most, most-1), 0, -1}, {line(-most, most, most, -most+1), 1, -1},
	} {
		if y, ok := impl.Along(c.c, c.x); !ok || y != c.y {
			t.Error("Along", c, y, ok)
		}
	}
}

func TestP3BackIsTheLeastPlace(t *testing.T) {
	for _, c := range rightCurves() {
		first, last := c[0], c[len(c)-1]
		low, high := min(first.Y, last.Y), max(first.Y, last.Y)
		for y := low - 3; y <= high+3; y++ {
			x, ok := impl.Back(c, y)
			if ok != (risesInY(c) && y >= first.Y && y <= last.Y) || !ok && x != 0 {
				t.Fatal("Back", c, y, x, ok)
			}
			if !ok {
				continue
			}
			want := first.X
			for at, _ := wantAlong(c, want); at < y; at, _ = wantAlong(c, want) {
				want++
			}
			if x != want {
				t.Fatal("Back is not the least place", c, y, x, want)
			}
		}
		for _, k := range c {
			if x, ok := impl.Back(c, k.Y); ok && x != k.X && impl.CurveOk(c) && steeperThanOne(c) {
				t.Error("a knot does not come back", c, k, x)
			}
		}
	}
}

// steeperThanOne: each piece rises by 1 at least for each X, so no two places are alike.
func steeperThanOne(c []impl.Knot) bool {
	for i := 1; i < len(c); i++ {
		if c[i].Y-c[i-1].Y < c[i].X-c[i-1].X {
			return false
		}
	}
	return true
}

func TestP3BackEdges(t *testing.T) {
	const most = 1000000
	for _, c := range []struct {
		c    []impl.Knot
		y, x int64
		ok   bool
	}{
		{line(0, 0, 10, 5), 0, 0, true}, {line(0, 0, 10, 5), 1, 2, true}, {line(0, 0, 10, 5), 5, 10, true},
		{line(0, 0, 10, 5), -1, 0, false}, {line(0, 0, 10, 5), 6, 0, false},
		{line(0, 0, 5, 5, 9, 5), 5, 0, false}, {line(0, 0, 5, 5, 9, 4), 3, 0, false}, {line(0, 5, 5, 5), 5, 0, false},
		{line(-most, -most, most, most), most, most, true}, {line(-most, -most, most, most), -most, -most, true},
		{line(-most, 0, most, 1), 1, most, true}, {line(-most, 0, most, 2), 1, 0, true},
		{line(0, -most, 1, most), -most + 1, 1, true},
		{line(0, 0, 10, 5), math.MinInt64, 0, false}, {line(0, 0, 10, 5), math.MaxInt64, 0, false},
	} {
		if x, ok := impl.Back(c.c, c.y); x != c.x || ok != c.ok {
			t.Error("Back", c, x, ok)
		}
	}
}

func TestP3CurvesAreLeftAsTheyAre(t *testing.T) {
	for _, c := range append(rightCurves(), wrongCurves()...) {
		room := append(slices.Clone(c), impl.Knot{X: 77, Y: 78})
		was := slices.Clone(room)
		given := room[:len(c)]
		impl.CurveOk(given)
		impl.Along(given, 1)
		impl.Back(given, 1)
		if !slices.Equal(room, was) {
			t.Error("written into", was, room)
		}
	}
}

// boilsAt: the chapter's three rows, followed by wantAlong.
func boilsAt(p int64) (int64, int64, int64) {
	b, _ := wantAlong(line(10, 458, 100, 996, 1000, 1799, 5000, 2639, 10000, 3110, 20000, 3657), p)
	l, _ := wantAlong(line(10, 1918, 100, 4175, 1000, 7628, 5000, 11542, 10000, 14076, 20000, 18268), p)
	v, _ := wantAlong(line(10, 25846, 100, 26755, 1000, 27781, 5000, 27942, 10000, 27247, 20000, 24105), p)
	return b, l, v
}

func wantState(b int64, l int64, v int64, h int64) impl.State {
	if h < l {
		return impl.State{Kind: 1, Temp: b - (l-h)*10/42}
	}
	if h > v {
		return impl.State{Kind: 3, Temp: b + (h-v)*10/22, Part: 1000}
	}
	return impl.State{Kind: 2, Temp: b, Part: (h - l) * 1000 / (v - l)}
}

func pressures() []int64 {
	return []int64{10, 11, 12, 55, 99, 100, 101, 500, 999, 1000, 1001, 3333, 4999, 5000, 5001, 7777, 9999, 10000, 10001, 15000, 19999, 20000}
}

func TestP3HeatsComeBack(t *testing.T) {
	for _, p := range pressures() {
		b, l, v := boilsAt(p)
		first := map[impl.State]int64{}
		for h := int64(0); h <= 40000; h++ {
			s, ok := impl.SteamOf(p, h)
			if !ok || s != wantState(b, l, v, h) {
				t.Fatal("SteamOf", p, h, s, ok)
			}
			if _, seen := first[s]; !seen {
				first[s] = h
			}
		}
		for s, want := range first {
			if h, ok := impl.HeatAt(p, s); !ok || h != want {
				t.Fatal("HeatAt", p, s, h, ok, want)
			}
			for _, n := range nearStates(s) {
				want, wantOk := first[n]
				if h, ok := impl.HeatAt(p, n); h != want || ok != wantOk {
					t.Fatal("HeatAt beside", p, n, h, ok, want, wantOk)
				}
			}
		}
	}
}

func nearStates(s impl.State) []impl.State {
	return []impl.State{
		{Kind: s.Kind - 1, Temp: s.Temp, Part: s.Part}, {Kind: s.Kind + 1, Temp: s.Temp, Part: s.Part},
		{Kind: s.Kind, Temp: s.Temp - 1, Part: s.Part}, {Kind: s.Kind, Temp: s.Temp + 1, Part: s.Part},
		{Kind: s.Kind, Temp: s.Temp, Part: s.Part - 1}, {Kind: s.Kind, Temp: s.Temp, Part: s.Part + 1},
	}
}

func TestP3BoilingEdges(t *testing.T) {
	for _, p := range pressures() {
		b, l, v := boilsAt(p)
		for _, c := range []struct {
			h int64
			s impl.State
		}{
			{l - 1, impl.State{Kind: impl.StWater, Temp: b}},
			{l - 4, impl.State{Kind: impl.StWater, Temp: b}},
			{l - 5, impl.State{Kind: impl.StWater, Temp: b - 1}},
			{l, impl.State{Kind: impl.StWet, Temp: b}},
			{v, impl.State{Kind: impl.StWet, Temp: b, Part: 1000}},
			{v - 1, impl.State{Kind: impl.StWet, Temp: b, Part: 999}},
			{v + 1, impl.State{Kind: impl.StSteam, Temp: b, Part: 1000}},
			{v + 3, impl.State{Kind: impl.StSteam, Temp: b + 1, Part: 1000}},
			{0, impl.State{Kind: impl.StWater, Temp: b - l*10/42}},
			{40000, impl.State{Kind: impl.StSteam, Temp: b + (40000-v)*10/22, Part: 1000}},
		} {
			if s, ok := impl.SteamOf(p, c.h); !ok || s != c.s {
				t.Error("SteamOf", p, c.h, s, ok, c.s)
			}
		}
	}
}

func TestP3StatesThatNoHeatHas(t *testing.T) {
	for _, s := range []impl.State{
		{}, {Kind: 4, Temp: 996}, {Kind: -1, Temp: 996}, {Kind: impl.StWater, Temp: 997}, {Kind: impl.StWater, Temp: 996, Part: 1},
		{Kind: impl.StWater, Temp: 996, Part: -1}, {Kind: impl.StWet, Temp: 995}, {Kind: impl.StWet, Temp: 997, Part: 5},
		{Kind: impl.StWet, Temp: 996, Part: 1001}, {Kind: impl.StWet, Temp: 996, Part: -1}, {Kind: impl.StSteam, Temp: 996},
		{Kind: impl.StSteam, Temp: 996, Part: 999}, {Kind: impl.StSteam, Temp: 995, Part: 1000}, {Kind: impl.StSteam, Temp: 100000, Part: 1000},
		{Kind: impl.StWater, Temp: -100000}, {Kind: math.MaxInt64, Temp: math.MaxInt64, Part: math.MaxInt64},
		{Kind: math.MinInt64, Temp: math.MinInt64, Part: math.MinInt64},
	} {
		if h, ok := impl.HeatAt(100, s); ok || h != 0 {
			t.Error("HeatAt", s, h, ok)
		}
	}
}

func TestP3PressuresAndHeatsOutside(t *testing.T) {
	wet := impl.State{Kind: impl.StWet, Temp: 996}
	for _, p := range []int64{9, 20001, 0, -10, math.MinInt64, math.MaxInt64} {
		if s, ok := impl.SteamOf(p, 5000); ok || s != (impl.State{}) {
			t.Error("SteamOf", p, s, ok)
		}
		if h, ok := impl.HeatAt(p, wet); ok || h != 0 {
			t.Error("HeatAt", p, h, ok)
		}
		for _, c := range [][2]int64{{p, 100}, {100, p}, {p, p}, {20000, p}, {p, 10}} {
			if s, ok := impl.Throttle(c[0], 5000, c[1]); ok || s != (impl.State{}) {
				t.Error("Throttle", c, s, ok)
			}
		}
	}
	for _, h := range []int64{-1, 40001, math.MinInt64, math.MaxInt64} {
		if s, ok := impl.SteamOf(100, h); ok || s != (impl.State{}) {
			t.Error("SteamOf", h, s, ok)
		}
		if s, ok := impl.Throttle(100, h, 100); ok || s != (impl.State{}) {
			t.Error("Throttle", h, s, ok)
		}
	}
}

func TestP3ValveIsThatOfItsPressure(t *testing.T) {
	for _, p := range pressures() {
		for _, q := range append(pressures(), p-1, p, p+1) {
			for _, h := range []int64{0, 1, 1918, 4175, 14000, 24105, 26755, 27942, 39999, 40000} {
				s, ok := impl.Throttle(p, h, q)
				want, wantOk := impl.SteamOf(q, h)
				if q > p {
					want, wantOk = impl.State{}, false
				}
				if s != want || ok != wantOk {
					t.Fatal("Throttle", p, h, q, s, ok, want, wantOk)
				}
			}
		}
	}
}
