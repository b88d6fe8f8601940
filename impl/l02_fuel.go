package impl

const (
	MaxAtoms = 1000000000
	MaxFlue  = 1000000000000
	MaxGas   = 10000
)

const (
	airOxygen   = 42
	airNitrogen = 158
	mostPartOfK = 1000
)

type Fuel struct {
	C int64
	H int64
	S int64
	O int64
	N int64
}

type Flue struct {
	CO2 int64
	CO  int64
	C   int64
	H2O int64
	H2  int64
	SO2 int64
	S   int64
	O   int64
	N   int64
}

type Gas struct {
	CO  int64
	H2O int64
	CO2 int64
	H2  int64
}

// The places of a Flue's numbers in a row of counts: as a row they can be
// ranged over beside the table of molecules.
const (
	atCO2 = iota
	atCO
	atC
	atH2O
	atH2
	atSO2
	atS
	atO
	atN
	flueKinds
)

type molecule struct {
	atoms Fuel
	heat  int64
}

var molecules = [flueKinds]molecule{
	atCO2: {atoms: Fuel{C: 1, O: 2}, heat: 394},
	atCO:  {atoms: Fuel{C: 1, O: 1}, heat: 111},
	atC:   {atoms: Fuel{C: 1}},
	atH2O: {atoms: Fuel{H: 2, O: 1}, heat: 242},
	atH2:  {atoms: Fuel{H: 2}},
	atSO2: {atoms: Fuel{S: 1, O: 2}, heat: 297},
	atS:   {atoms: Fuel{S: 1}},
	atO:   {atoms: Fuel{O: 1}},
	atN:   {atoms: Fuel{N: 1}},
}

type burning struct {
	from   int
	oxygen int64
	into   int
}

// The order is part of what a fire is: with too little oxygen the earlier ones take it all.
var burnings = [...]burning{
	{from: atH2, oxygen: 1, into: atH2O},
	{from: atS, oxygen: 2, into: atSO2},
	{from: atC, oxygen: 1, into: atCO},
	{from: atCO, oxygen: 1, into: atCO2},
}

func FuelOk(f Fuel) bool {
	for _, n := range [...]int64{f.C, f.H, f.S, f.O, f.N} {
		if !within(n, 0, MaxAtoms) {
			return false
		}
	}
	return f.H%2 == 0
}

func Burn(f Fuel, air int64) (Flue, bool) {
	if !FuelOk(f) || !airOk(air) {
		return Flue{}, false
	}
	var counts [flueKinds]int64
	counts[atC], counts[atH2], counts[atS] = f.C, f.H/2, f.S
	counts[atO] = f.O + airOxygen*air
	counts[atN] = f.N + airNitrogen*air
	for _, b := range burnings {
		n := min(counts[b.from], counts[atO]/b.oxygen)
		counts[b.from] -= n
		counts[atO] -= n * b.oxygen
		counts[b.into] += n
	}
	return flueOf(counts), true
}

func Elements(g Flue) (Fuel, bool) {
	var sum Fuel
	for i, n := range g.counts() {
		if !within(n, 0, MaxFlue) {
			return Fuel{}, false
		}
		sum = sum.plus(molecules[i].atoms, n)
	}
	return sum, true
}

func Need(f Fuel) int64 {
	if !FuelOk(f) {
		return -1
	}
	lack := f.H/2 + 2*f.S + 2*f.C - f.O
	if lack <= 0 {
		return 0
	}
	return (lack + airOxygen - 1) / airOxygen
}

func Excess(f Fuel, air int64) (Frac, bool) {
	if !FuelOk(f) || !airOk(air) {
		return Frac{}, false
	}
	// Of a Need of 0 MakeFrac says false by itself: it is the divisor.
	need := Need(f)
	return MakeFrac(air-need, need)
}

func HeatOf(g Flue) int64 {
	if _, ok := Elements(g); !ok {
		return -1
	}
	var heat int64
	for i, n := range g.counts() {
		heat += molecules[i].heat * n
	}
	return heat
}

func Balance(g Gas, k Frac) (Gas, int64, bool) {
	if !g.right() || !k.right() || !within(k.Num, 1, mostPartOfK) || !within(k.Den, 1, mostPartOfK) {
		return Gas{}, 0, false
	}
	// Between these bounds the left side only grows with x and the right one
	// only falls, and at the least x the left one is 0: so halving finds the greatest.
	low, high := -min(g.CO2, g.H2), min(g.CO, g.H2O)
	for low < high {
		mid := high - (high-low)/2
		if g.moved(mid).surplus(k) >= 0 {
			low = mid
		} else {
			high = mid - 1
		}
	}
	end := g.moved(low)
	return end, end.surplus(k), true
}

func airOk(air int64) bool {
	return within(air, 0, MaxAtoms)
}

func (f Fuel) plus(g Fuel, times int64) Fuel {
	return Fuel{
		C: f.C + g.C*times,
		H: f.H + g.H*times,
		S: f.S + g.S*times,
		O: f.O + g.O*times,
		N: f.N + g.N*times,
	}
}

func (g Flue) counts() [flueKinds]int64 {
	return [flueKinds]int64{
		atCO2: g.CO2, atCO: g.CO, atC: g.C, atH2O: g.H2O, atH2: g.H2,
		atSO2: g.SO2, atS: g.S, atO: g.O, atN: g.N,
	}
}

func flueOf(counts [flueKinds]int64) Flue {
	return Flue{
		CO2: counts[atCO2], CO: counts[atCO], C: counts[atC], H2O: counts[atH2O], H2: counts[atH2],
		SO2: counts[atSO2], S: counts[atS], O: counts[atO], N: counts[atN],
	}
}

func (g Gas) right() bool {
	return within(g.CO, 0, MaxGas) && within(g.H2O, 0, MaxGas) &&
		within(g.CO2, 0, MaxGas) && within(g.H2, 0, MaxGas)
}

func (g Gas) moved(x int64) Gas {
	return Gas{CO: g.CO - x, H2O: g.H2O - x, CO2: g.CO2 + x, H2: g.H2 + x}
}

// surplus is what k's side of the balance has above the other one.
func (g Gas) surplus(k Frac) int64 {
	return k.Num*g.CO*g.H2O - g.CO2*g.H2*k.Den
}
