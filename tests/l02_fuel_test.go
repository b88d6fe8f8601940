package tests

import (
	"math"
	"testing"

	"loop.example/g00062/impl"
)

func fuelFields(f *impl.Fuel) []*int64 {
	return []*int64{&f.C, &f.H, &f.S, &f.O, &f.N}
}

func flueFields(g *impl.Flue) []*int64 {
	return []*int64{&g.CO2, &g.CO, &g.C, &g.H2O, &g.H2, &g.SO2, &g.S, &g.O, &g.N}
}

func gasFields(g *impl.Gas) []*int64 {
	return []*int64{&g.CO, &g.H2O, &g.CO2, &g.H2}
}

// atomsOf: the atoms of a flue, written out; HeatOf's numbers likewise in heatOf.
func atomsOf(g impl.Flue) impl.Fuel {
	return impl.Fuel{
		C: g.CO2 + g.CO + g.C,
		H: 2*g.H2O + 2*g.H2,
		S: g.SO2 + g.S,
		O: 2*g.CO2 + g.CO + g.H2O + 2*g.SO2 + g.O,
		N: g.N,
	}
}

func heatOf(g impl.Flue) int64 {
	return 394*g.CO2 + 111*g.CO + 242*g.H2O + 297*g.SO2
}

// fireOf burns one molecule after the other.
func fireOf(f impl.Fuel, air int64) impl.Flue {
	g := impl.Flue{C: f.C, H2: f.H / 2, S: f.S, O: f.O + 42*air, N: f.N + 158*air}
	for g.H2 > 0 && g.O >= 1 {
		g.H2, g.O, g.H2O = g.H2-1, g.O-1, g.H2O+1
	}
	for g.S > 0 && g.O >= 2 {
		g.S, g.O, g.SO2 = g.S-1, g.O-2, g.SO2+1
	}
	for g.C > 0 && g.O >= 1 {
		g.C, g.O, g.CO = g.C-1, g.O-1, g.CO+1
	}
	for g.CO > 0 && g.O >= 1 {
		g.CO, g.O, g.CO2 = g.CO-1, g.O-1, g.CO2+1
	}
	return g
}

func burnt(g impl.Flue) bool {
	return g.CO == 0 && g.C == 0 && g.H2 == 0 && g.S == 0
}

// smallFuels: all mixtures of a few numbers of each atom.
func smallFuels() []impl.Fuel {
	var list []impl.Fuel
	for _, c := range []int64{0, 1, 2, 21, 43} {
		for _, h := range []int64{0, 2, 6, 84, 86} {
			for _, s := range []int64{0, 1, 3, 21, 22} {
				for _, o := range []int64{0, 1, 2, 3, 7, 42, 90, 300} {
					list = append(list, impl.Fuel{C: c, H: h, S: s, O: o, N: c + s})
				}
			}
		}
	}
	return list
}

func wrongFuels() []impl.Fuel {
	list := []impl.Fuel{{H: 1}, {H: 3, C: 1}, {H: impl.MaxAtoms - 1}}
	for i := range 5 {
		for _, n := range []int64{-1, -2, impl.MaxAtoms + 1, impl.MaxAtoms + 2, math.MinInt64, math.MaxInt64} {
			f := impl.Fuel{C: 2, H: 2, S: 2, O: 2, N: 2}
			*fuelFields(&f)[i] = n
			list = append(list, f)
		}
	}
	return list
}

func wrongAirs() []int64 {
	return []int64{-1, impl.MaxAtoms + 1, math.MinInt64, math.MaxInt64}
}

func TestP2FuelOk(t *testing.T) {
	for _, f := range append(smallFuels(), impl.Fuel{}) {
		if !impl.FuelOk(f) {
			t.Fatal("right", f)
		}
	}
	for i := range 5 {
		var f impl.Fuel
		*fuelFields(&f)[i] = impl.MaxAtoms
		if !impl.FuelOk(f) {
			t.Error("met exactly", f)
		}
	}
	for _, f := range wrongFuels() {
		if impl.FuelOk(f) {
			t.Error("wrong", f)
		}
	}
}

func TestP2BurnKeepsAtomsAndOrder(t *testing.T) {
	for _, f := range smallFuels() {
		for air := range int64(8) {
			g, ok := impl.Burn(f, air)
			if !ok || g != fireOf(f, air) {
				t.Fatal("Burn", f, air, g, ok, fireOf(f, air))
			}
			want := f
			want.O += 42 * air
			want.N += 158 * air
			if e, ok := impl.Elements(g); !ok || e != want || atomsOf(g) != want {
				t.Fatal("atoms are not kept", f, air, g, e, want)
			}
		}
	}
}

// Two of each of H2, S, C, so that with more and more oxygen each step of the order lacks some in turn.
func TestP2BurnShortOfOxygen(t *testing.T) {
	for o, want := range []impl.Flue{
		{H2: 2, S: 2, C: 2},
		{H2O: 1, H2: 1, S: 2, C: 2},
		{H2O: 2, S: 2, C: 2},
		{H2O: 2, S: 2, C: 1, CO: 1},
		{H2O: 2, SO2: 1, S: 1, C: 2},
		{H2O: 2, SO2: 1, S: 1, C: 1, CO: 1},
		{H2O: 2, SO2: 2, C: 2},
		{H2O: 2, SO2: 2, C: 1, CO: 1},
		{H2O: 2, SO2: 2, CO: 2},
		{H2O: 2, SO2: 2, CO: 1, CO2: 1},
		{H2O: 2, SO2: 2, CO2: 2},
		{H2O: 2, SO2: 2, CO2: 2, O: 1},
	} {
		f := impl.Fuel{C: 2, H: 4, S: 2, O: int64(o)}
		if g, ok := impl.Burn(f, 0); !ok || g != want {
			t.Error("with so much oxygen:", o, g, ok)
		}
	}
}

func TestP2BurnEdges(t *testing.T) {
	const m = impl.MaxAtoms
	full := impl.Fuel{C: m, H: m, S: m, O: m, N: m}
	for _, c := range []struct {
		f    impl.Fuel
		air  int64
		want impl.Flue
	}{
		{impl.Fuel{}, 0, impl.Flue{}},
		{impl.Fuel{}, m, impl.Flue{O: 42 * m, N: 158 * m}},
		{full, 0, impl.Flue{H2O: m / 2, SO2: m / 4, S: m - m/4, C: m, N: m}},
		{full, m, impl.Flue{H2O: m / 2, SO2: m, CO2: m, O: 43*m - m/2 - 4*m, N: 159 * m}},
		{impl.Fuel{N: 7}, 1, impl.Flue{O: 42, N: 165}},
		{impl.Fuel{S: 1, O: 1}, 0, impl.Flue{S: 1, O: 1}},
	} {
		if g, ok := impl.Burn(c.f, c.air); !ok || g != c.want {
			t.Error("Burn", c.f, c.air, g, ok, c.want)
		}
	}
}

func TestP2BurnWrong(t *testing.T) {
	for _, f := range wrongFuels() {
		for _, air := range append(wrongAirs(), 0, 3, impl.MaxAtoms) {
			if g, ok := impl.Burn(f, air); ok || g != (impl.Flue{}) {
				t.Error("Burn", f, air, g, ok)
			}
			if x, ok := impl.Excess(f, air); ok || x != (impl.Frac{}) {
				t.Error("Excess", f, air, x, ok)
			}
		}
		if n := impl.Need(f); n != -1 {
			t.Error("Need", f, n)
		}
	}
	f := impl.Fuel{C: 21}
	for _, air := range wrongAirs() {
		if g, ok := impl.Burn(f, air); ok || g != (impl.Flue{}) {
			t.Error("Burn", f, air, g, ok)
		}
		if x, ok := impl.Excess(f, air); ok || x != (impl.Frac{}) {
			t.Error("Excess", f, air, x, ok)
		}
	}
}

func TestP2NeedIsLeast(t *testing.T) {
	for _, f := range smallFuels() {
		need := impl.Need(f)
		var least int64
		for !burnt(fireOf(f, least)) {
			least++
		}
		if need != least {
			t.Fatal("Need", f, need, least)
		}
		for air := range need + 5 {
			g, ok := impl.Burn(f, air)
			if !ok || burnt(g) != (air >= need) {
				t.Fatal("left over", f, air, need, g)
			}
		}
	}
}

func TestP2NeedEdges(t *testing.T) {
	const m = impl.MaxAtoms
	for _, c := range []struct {
		f    impl.Fuel
		need int64
	}{
		{impl.Fuel{}, 0}, {impl.Fuel{O: m}, 0}, {impl.Fuel{N: m}, 0},
		{impl.Fuel{C: 21}, 1}, {impl.Fuel{C: 22}, 2}, {impl.Fuel{C: 22, O: 2}, 1}, {impl.Fuel{C: 21, O: 42}, 0}, {impl.Fuel{C: 21, O: 41}, 1},
		{impl.Fuel{H: 84}, 1}, {impl.Fuel{H: 86}, 2}, {impl.Fuel{S: 21}, 1}, {impl.Fuel{S: 22}, 2},
		{impl.Fuel{C: m, H: m, S: m}, (9*m/2 + 41) / 42},
		{impl.Fuel{C: m, H: m, S: m, O: m, N: m}, (7*m/2 + 41) / 42},
	} {
		if n := impl.Need(c.f); n != c.need {
			t.Error("Need", c.f, n, c.need)
		}
		if g, ok := impl.Burn(c.f, c.need); !ok || !burnt(g) {
			t.Error("with the air that is needed", c.f, g, ok)
		}
		if c.need > 0 {
			if g, ok := impl.Burn(c.f, c.need-1); !ok || burnt(g) {
				t.Error("with less", c.f, g, ok)
			}
		}
		if g, ok := impl.Burn(c.f, m); !ok || !burnt(g) {
			t.Error("with the most", c.f, g, ok)
		}
	}
}

func TestP2MoreAirMoreHeat(t *testing.T) {
	for _, f := range smallFuels() {
		last := int64(0)
		for air := range impl.Need(f) + 4 {
			g, _ := impl.Burn(f, air)
			heat := impl.HeatOf(g)
			if heat != heatOf(g) || heat < last {
				t.Fatal("HeatOf", f, air, heat, last)
			}
			last = heat
		}
	}
}

func TestP2Excess(t *testing.T) {
	const m = impl.MaxAtoms
	for _, c := range []struct {
		f    impl.Fuel
		air  int64
		want impl.Frac
		ok   bool
	}{
		{impl.Fuel{C: 42}, 0, impl.Frac{Num: -1, Den: 1}, true},
		{impl.Fuel{C: 42}, 1, impl.Frac{Num: -1, Den: 2}, true},
		{impl.Fuel{C: 42}, 2, impl.Frac{Num: 0, Den: 1}, true},
		{impl.Fuel{C: 42}, 5, impl.Frac{Num: 3, Den: 2}, true},
		{impl.Fuel{C: 1}, m, impl.Frac{Num: m - 1, Den: 1}, true},
		{impl.Fuel{C: 43}, m, impl.Frac{Num: m - 3, Den: 3}, true},
		{impl.Fuel{C: m, H: m, S: m}, m, impl.Frac{Num: 446428571, Den: 53571429}, true},
		{impl.Fuel{}, 0, impl.Frac{}, false},
		{impl.Fuel{}, 3, impl.Frac{}, false},
		{impl.Fuel{C: 1, O: 2}, 3, impl.Frac{}, false},
	} {
		if x, ok := impl.Excess(c.f, c.air); x != c.want || ok != c.ok {
			t.Error("Excess", c.f, c.air, x, ok)
		}
	}
}

func TestP2ElementsAndHeat(t *testing.T) {
	for i := range 9 {
		for _, n := range []int64{0, 1, 5, impl.MaxFlue} {
			g := impl.Flue{CO2: 1, CO: 2, C: 3, H2O: 4, H2: 5, SO2: 6, S: 7, O: 8, N: 9}
			*flueFields(&g)[i] = n
			if e, ok := impl.Elements(g); !ok || e != atomsOf(g) {
				t.Error("Elements", g, e, ok)
			}
			if h := impl.HeatOf(g); h != heatOf(g) {
				t.Error("HeatOf", g, h)
			}
		}
		for _, n := range []int64{-1, impl.MaxFlue + 1, math.MinInt64, math.MaxInt64} {
			g := impl.Flue{CO2: 1, CO: 1, C: 1, H2O: 1, H2: 1, SO2: 1, S: 1, O: 1, N: 1}
			*flueFields(&g)[i] = n
			if e, ok := impl.Elements(g); ok || e != (impl.Fuel{}) {
				t.Error("Elements", g, e, ok)
			}
			if h := impl.HeatOf(g); h != -1 {
				t.Error("HeatOf", g, h)
			}
		}
	}
	const m = impl.MaxFlue
	full := impl.Flue{CO2: m, CO: m, C: m, H2O: m, H2: m, SO2: m, S: m, O: m, N: m}
	if e, ok := impl.Elements(full); !ok || e != (impl.Fuel{C: 3 * m, H: 4 * m, S: 2 * m, O: 7 * m, N: m}) {
		t.Error("Elements", e, ok)
	}
	if h := impl.HeatOf(full); h != 1044*m {
		t.Error("HeatOf", h)
	}
	if e, ok := impl.Elements(impl.Flue{}); !ok || e != (impl.Fuel{}) || impl.HeatOf(impl.Flue{}) != 0 {
		t.Error("nothing", e, ok)
	}
}

// balanceOf goes through all x from the greatest one on.
func balanceOf(g impl.Gas, k impl.Frac) (impl.Gas, int64) {
	x := min(g.CO, g.H2O)
	for {
		left := (g.CO2 + x) * (g.H2 + x) * k.Den
		right := k.Num * (g.CO - x) * (g.H2O - x)
		if left <= right {
			return impl.Gas{CO: g.CO - x, H2O: g.H2O - x, CO2: g.CO2 + x, H2: g.H2 + x}, right - left
		}
		x--
	}
}

func balanceSame(t *testing.T, g impl.Gas, k impl.Frac) {
	t.Helper()
	want, over := balanceOf(g, k)
	h, n, ok := impl.Balance(g, k)
	if !ok || h != want || n != over {
		t.Fatal("Balance", g, k, h, n, ok, want, over)
	}
	c := h.CO+h.CO2 == g.CO+g.CO2
	hydrogen := h.H2O+h.H2 == g.H2O+g.H2
	oxygen := h.CO+h.H2O+2*h.CO2 == g.CO+g.H2O+2*g.CO2
	if !c || !hydrogen || !oxygen {
		t.Fatal("atoms are not kept", g, k, h)
	}
	if h.CO < 0 || h.H2O < 0 || h.CO2 < 0 || h.H2 < 0 || n < 0 {
		t.Fatal("below 0", g, k, h, n)
	}
}

func rightKs() []impl.Frac {
	return []impl.Frac{
		{Num: 1, Den: 1}, {Num: 1, Den: 2}, {Num: 2, Den: 1}, {Num: 7, Den: 3}, {Num: 3, Den: 7},
		{Num: 1, Den: 1000}, {Num: 1000, Den: 1}, {Num: 1000, Den: 999}, {Num: 999, Den: 1000},
	}
}

func TestP2Balance(t *testing.T) {
	numbers := []int64{0, 1, 2, 3, 10, 57}
	for _, a := range numbers {
		for _, b := range numbers {
			for _, c := range numbers {
				for _, d := range numbers {
					for _, k := range rightKs() {
						balanceSame(t, impl.Gas{CO: a, H2O: b, CO2: c, H2: d}, k)
					}
				}
			}
		}
	}
}

func TestP2BalanceEdges(t *testing.T) {
	const m = impl.MaxGas
	for _, g := range []impl.Gas{
		{CO: m, H2O: m, CO2: m, H2: m}, {CO: m, H2O: m}, {CO2: m, H2: m}, {CO: m, H2: m}, {H2O: m, CO2: m},
		{CO: m}, {H2O: m}, {CO2: m}, {H2: m}, {CO: m, H2O: 1, CO2: m}, {CO: 1, CO2: m, H2: m}, {CO: m - 1, H2O: m, CO2: 7, H2: 3},
	} {
		for _, k := range rightKs() {
			balanceSame(t, g, k)
		}
	}
	if h, over, ok := impl.Balance(impl.Gas{CO2: 10, H2: 10}, impl.Frac{Num: 1, Den: 1}); !ok || over != 0 || h != (impl.Gas{CO: 5, H2O: 5, CO2: 5, H2: 5}) {
		t.Error("back", h, over, ok)
	}
}

func TestP2BalanceWrong(t *testing.T) {
	fine, one := impl.Gas{CO: 10, H2O: 10, CO2: 1, H2: 1}, impl.Frac{Num: 1, Den: 1}
	refused := func(g impl.Gas, k impl.Frac) {
		t.Helper()
		if h, over, ok := impl.Balance(g, k); ok || over != 0 || h != (impl.Gas{}) {
			t.Error("Balance", g, k, h, over, ok)
		}
	}
	for i := range 4 {
		for _, n := range []int64{-1, impl.MaxGas + 1, math.MinInt64, math.MaxInt64} {
			g := fine
			*gasFields(&g)[i] = n
			refused(g, one)
		}
	}
	for _, k := range append(wrongFracs(), impl.Frac{Num: 0, Den: 1}, impl.Frac{Num: -1, Den: 1}, impl.Frac{Num: 1001, Den: 1}, impl.Frac{Num: 1, Den: 1001},
		impl.Frac{Num: 1000, Den: 1000}, impl.Frac{Num: 1001, Den: 1000}, impl.Frac{Num: 1000, Den: 1001}) {
		refused(fine, k)
	}
	refused(impl.Gas{CO: -1}, impl.Frac{})
}
