package tests

import (
	"math"
	"slices"
	"testing"

	"loop.example/g00062/impl"
)

func TestP23Constants(t *testing.T) {
	if impl.MaxGates != 20 || impl.MaxGroups != 100 {
		t.Error("a limit")
	}
}

func gate(need int64, ins ...int64) impl.Gate {
	return impl.Gate{Need: need, Ins: ins}
}

func treeOf(basics int64, gates ...impl.Gate) impl.Tree {
	return impl.Tree{Basics: basics, Gates: gates}
}

// upTo are the numbers from 0 on, n of them.
func upTo(n int64) []int64 {
	list := []int64{}
	for i := range n {
		list = append(list, i)
	}
	return list
}

// needing fails by any need of all basics.
func needing(basics int64, need int64) impl.Tree {
	return treeOf(basics, gate(need, upTo(basics)...))
}

// gateRow has n gates, the first of them of basic 0, each other of the one ahead of it.
func gateRow(basics int64, n int64) impl.Tree {
	out := impl.Tree{Basics: basics}
	for place := range n {
		in := int64(0)
		if place > 0 {
			in = basics + place - 1
		}
		out.Gates = append(out.Gates, gate(1, in))
	}
	return out
}

// bridge: two of the first three, or the fourth with the fifth.
func bridge() impl.Tree {
	return treeOf(5, gate(2, 0, 1, 2), gate(2, 3, 4), gate(1, 5, 6))
}

func treeCopy(x impl.Tree) impl.Tree {
	out := impl.Tree{Basics: x.Basics}
	for _, g := range x.Gates {
		out.Gates = append(out.Gates, gate(g.Need, slices.Clone(g.Ins)...))
	}
	return out
}

func sameTree(a impl.Tree, b impl.Tree) bool {
	return a.Basics == b.Basics && slices.EqualFunc(a.Gates, b.Gates, func(g, h impl.Gate) bool {
		return g.Need == h.Need && slices.Equal(g.Ins, h.Ins)
	})
}

func wantTree(x impl.Tree) bool {
	if x.Basics < 1 || x.Basics > 10 || len(x.Gates) == 0 || len(x.Gates) > 20 {
		return false
	}
	for place, g := range x.Gates {
		if len(g.Ins) < 1 || len(g.Ins) > 12 || g.Need < 1 || g.Need > int64(len(g.Ins)) {
			return false
		}
		if !risesFrom(g.Ins, 0, x.Basics+int64(place)-1) {
			return false
		}
	}
	return true
}

// wantFailed asks from the top down; it wants a right tree.
func wantFailed(x impl.Tree, number int64, set []int64) bool {
	if number < x.Basics {
		return slices.Contains(set, number)
	}
	g, failed := x.Gates[number-x.Basics], int64(0)
	for _, in := range g.Ins {
		failed += flag(wantFailed(x, in, set))
	}
	return failed >= g.Need
}

func wantFails(x impl.Tree, set []int64) bool {
	return wantTree(x) && wantFailed(x, x.Basics+int64(len(x.Gates))-1, set)
}

func holdsAll(set []int64, part []int64) bool {
	for _, n := range part {
		if !slices.Contains(set, n) {
			return false
		}
	}
	return true
}

// wantCuts makes all lists of one length in order, then longer ones, and takes
// those by which it fails and that hold none of those that it has.
func wantCuts(x impl.Tree) [][]int64 {
	if !wantTree(x) {
		return nil
	}
	cuts := [][]int64{}
	for long := 0; long <= int(x.Basics); long++ {
		cuts = cutsBehind(x, cuts, nil, 0, long)
	}
	return cuts
}

func cutsBehind(x impl.Tree, cuts [][]int64, begun []int64, from int64, long int) [][]int64 {
	if len(begun) < long {
		for basic := from; basic < x.Basics; basic++ {
			cuts = cutsBehind(x, cuts, append(slices.Clone(begun), basic), basic+1, long)
		}
		return cuts
	}
	if wantFails(x, begun) && !slices.ContainsFunc(cuts, func(cut []int64) bool { return holdsAll(begun, cut) }) {
		return append(cuts, begun)
	}
	return cuts
}

func wantEighths(x impl.Tree, eighths []int64) bool {
	for _, e := range eighths {
		if e < 0 || e > 8 {
			return false
		}
	}
	return wantTree(x) && int(x.Basics) == len(eighths)
}

// wantChance parts the sets by one basic after the other.
func wantChance(x impl.Tree, eighths []int64) int64 {
	if !wantEighths(x, eighths) {
		return -1
	}
	return chanceBehind(x, eighths, nil, 0)
}

func chanceBehind(x impl.Tree, eighths []int64, set []int64, basic int64) int64 {
	if basic == x.Basics {
		return flag(wantFails(x, set))
	}
	e := eighths[basic]
	return e*chanceBehind(x, eighths, append(slices.Clone(set), basic), basic+1) + (8-e)*chanceBehind(x, eighths, set, basic+1)
}

func wantUpper(x impl.Tree, eighths []int64) int64 {
	if !wantEighths(x, eighths) {
		return -1
	}
	sum := int64(0)
	for _, cut := range wantCuts(x) {
		part := int64(1) << (3 * x.Basics)
		for _, basic := range cut {
			part = part / 8 * eighths[basic]
		}
		sum += part
	}
	return sum
}

func wantWeight(x impl.Tree, eighths []int64, basic int64) int64 {
	if !wantEighths(x, eighths) || basic < 0 || basic >= x.Basics {
		return -1
	}
	sure, never := slices.Clone(eighths), slices.Clone(eighths)
	sure[basic], never[basic] = 8, 0
	return wantChance(x, sure) - wantChance(x, never)
}

func wantCommon(x impl.Tree, groups [][]int64) []int64 {
	places := []int64{}
	for place, group := range groups {
		if len(groups) < 101 && wantFails(x, group) {
			places = append(places, int64(place))
		}
	}
	return places
}

// failsAsWanted holds whether a tree is right and fails by some sets against what
// is wanted.
func failsAsWanted(t *testing.T, x impl.Tree, sets ...[]int64) {
	t.Helper()
	kept, keptSets := treeCopy(x), rowsCopyOf(sets)
	if ok := impl.TreeOk(x); ok != wantTree(x) {
		t.Error("right", x, ok)
	}
	for _, set := range sets {
		if fails := impl.FailsBy(x, set); fails != wantFails(x, set) {
			t.Error("fails", x, set, fails)
		}
	}
	places := impl.Common(x, sets)
	if !slices.Equal(places, wantCommon(x, sets)) {
		t.Error("common", x, sets, places)
	}
	if !sameTree(x, kept) || !sameTable(sets, keptSets) {
		t.Error("written into", x, sets)
	}
}

// cutsAsWanted holds its cuts against what is wanted, and that they are minimal.
func cutsAsWanted(t *testing.T, x impl.Tree) [][]int64 {
	t.Helper()
	kept, cuts := treeCopy(x), impl.MinCuts(x)
	if want := wantCuts(x); !sameTable(cuts, want) {
		t.Error("cuts", x, cuts, want)
	}
	for _, cut := range cuts {
		if !impl.FailsBy(x, cut) {
			t.Error("no cut", x, cut)
		}
		for i := range cut {
			if impl.FailsBy(x, slices.Delete(slices.Clone(cut), i, i+1)) {
				t.Error("one too many", x, cut)
			}
		}
	}
	if !sameTree(x, kept) {
		t.Error("written into", x)
	}
	return cuts
}

// chancesAsWanted holds what is said of eighths against what is wanted, and that a
// chance lies between 0 and its bounds.
func chancesAsWanted(t *testing.T, x impl.Tree, eighths ...int64) {
	t.Helper()
	kept, keptEighths := treeCopy(x), slices.Clone(eighths)
	chance, upper := impl.Chance(x, eighths), impl.Upper(x, eighths)
	if c, u := wantChance(x, eighths), wantUpper(x, eighths); chance != c || upper != u {
		t.Error(x, eighths, chance, upper, c, u)
	}
	if wantEighths(x, eighths) && (chance < 0 || chance > upper || chance > 1<<(3*x.Basics)) {
		t.Error("out of its bounds", x, eighths, chance, upper)
	}
	for basic := int64(-1); basic <= min(x.Basics, 11); basic++ {
		w := impl.Weight(x, eighths, basic)
		if want := wantWeight(x, eighths, basic); w != want {
			t.Error("weight", x, eighths, basic, w, want)
		}
	}
	if !sameTree(x, kept) || !slices.Equal(eighths, keptEighths) {
		t.Error("written into", x, eighths)
	}
}

func TestP23Trees(t *testing.T) {
	for _, c := range []struct {
		name  string
		x     impl.Tree
		right bool
	}{
		{"zero", impl.Tree{}, false}, {"one basic, one gate", gateRow(1, 1), true}, {"ten basics", needing(10, 4), true},
		{"no basics", treeOf(0, gate(1, 0)), false}, {"no basics, a gate behind a gate", treeOf(0, gate(1, 0), gate(1, 0)), false}, {"basics below 0", treeOf(-1, gate(1, 0)), false}, {"11 basics", gateRow(11, 1), false},
		{"basics far below", treeOf(math.MinInt64, gate(1, 0)), false}, {"basics far above", treeOf(math.MaxInt64, gate(1, 0)), false},
		{"no gates", treeOf(3), false}, {"20 gates", gateRow(3, 20), true}, {"21 gates", gateRow(3, 21), false}, {"20 gates, ten basics", gateRow(10, 20), true}, {"21 gates, ten basics", gateRow(10, 21), false},
		{"no Ins", treeOf(3, gate(1)), false}, {"no Ins, Need 0", treeOf(3, gate(0)), false}, {"no Ins of a later one", treeOf(3, gate(1, 0), gate(1)), false},
		{"12 Ins", treeOf(10, gate(1, 0), gate(1, 1), gate(12, upTo(12)...)), true}, {"13 Ins", treeOf(10, gate(1, 0), gate(1, 1), gate(1, 2), gate(12, upTo(13)...)), false},
		{"12 Ins of a gate that is not the last", treeOf(10, gate(1, 0), gate(1, 1), gate(12, upTo(12)...), gate(1, 12)), true}, {"13 Ins of a gate that is not the last", treeOf(10, gate(1, 0), gate(1, 1), gate(1, 2), gate(12, upTo(13)...), gate(1, 0)), false},
		{"Ins fall", treeOf(3, gate(1, 1, 0)), false}, {"Ins fall at the end", treeOf(3, gate(1, 0, 2, 1)), false}, {"twice the same", treeOf(3, gate(1, 1, 1)), false}, {"twice the same, one between", treeOf(3, gate(1, 1, 2, 1)), false},
		{"an In at -1", treeOf(3, gate(1, -1, 1)), false}, {"an In far below", treeOf(3, gate(1, math.MinInt64, 1)), false}, {"an In far above", treeOf(3, gate(1, 1, math.MaxInt64)), false},
		{"the last basic", treeOf(3, gate(1, 2)), true}, {"the first gate itself", treeOf(3, gate(1, 3)), false}, {"a later gate", treeOf(3, gate(1, 0, 4), gate(1, 0)), false},
		{"the gate ahead", treeOf(3, gate(1, 0), gate(1, 3)), true}, {"the second gate itself", treeOf(3, gate(1, 0), gate(1, 4)), false}, {"one beyond", treeOf(3, gate(1, 0), gate(1, 5)), false}, {"one beyond, behind others", treeOf(3, gate(1, 0), gate(1, 0, 3, 5)), false},
		{"Need 0", treeOf(3, gate(0, 0, 1)), false}, {"Need 1", treeOf(3, gate(1, 0, 1)), true}, {"Need all", treeOf(3, gate(2, 0, 1)), true}, {"Need one more", treeOf(3, gate(3, 0, 1)), false},
		{"Need below 0", treeOf(3, gate(-1, 0, 1)), false}, {"Need far off", treeOf(3, gate(math.MinInt64, 0, 1)), false}, {"Need far above", treeOf(3, gate(math.MaxInt64, 0, 1)), false},
		{"a wrong Need of a gate that nobody asks", treeOf(3, gate(0, 0), gate(1, 1)), false}, {"a gate that nobody asks", treeOf(3, gate(1, 0), gate(1, 1)), true},
	} {
		if ok := impl.TreeOk(c.x); ok != c.right {
			t.Error(c.name, c.x, ok)
		}
		failsAsWanted(t, c.x, nil, []int64{0}, []int64{1, 2}, upTo(12))
		cutsAsWanted(t, c.x)
		eighths := slices.Repeat([]int64{3}, int(min(max(c.x.Basics, 0), 12)))
		chancesAsWanted(t, c.x, eighths...)
		if !c.right {
			refusesTree(t, c.x, eighths)
		}
	}
}

// refusesTree: a tree that is not right has one answer of each function.
func refusesTree(t *testing.T, x impl.Tree, eighths []int64) {
	t.Helper()
	if impl.TreeOk(x) || impl.FailsBy(x, upTo(12)) || len(impl.MinCuts(x)) != 0 || len(impl.Common(x, [][]int64{upTo(12)})) != 0 {
		t.Error("a wrong tree", x)
	}
	if impl.Chance(x, eighths) != -1 || impl.Upper(x, eighths) != -1 || impl.Weight(x, eighths, 0) != -1 {
		t.Error("chances of a wrong tree", x)
	}
}

func TestP23FailsTold(t *testing.T) {
	x := bridge()
	for _, c := range []struct {
		name  string
		x     impl.Tree
		set   []int64
		fails bool
	}{
		{"empty", x, nil, false}, {"one alone", x, []int64{0}, false}, {"two of three", x, []int64{0, 2}, true}, {"in no order", x, []int64{2, 0}, true}, {"all three", x, []int64{2, 0, 1}, true},
		{"the other side", x, []int64{4, 3}, true}, {"one of each side", x, []int64{0, 3}, false}, {"all", x, []int64{0, 1, 2, 3, 4}, true},
		{"twice the same", x, []int64{1, 1}, false}, {"twice the same of both", x, []int64{4, 4, 4}, false}, {"twice the same, and another one", x, []int64{1, 0, 1}, true},
		{"numbers of gates are no basics", x, []int64{5, 6, 7}, false}, {"a gate's number and a basic", x, []int64{5, 0}, false}, {"none of them basics", x, []int64{-1, 8, 99, math.MinInt64, math.MaxInt64}, false},
		{"some of them basics", x, []int64{-1, 3, 99, 4, math.MaxInt64}, true}, {"32 and 64 beyond", x, []int64{32, 33, 64, 65, 35, 36}, false}, {"256 beyond", x, []int64{256, 257, 258}, false},
		{"not right", treeOf(2, gate(0, 0)), []int64{0}, false},
		{"the last gate counts", treeOf(2, gate(1, 0), gate(1, 1)), []int64{0}, false}, {"the last gate counts, and fails", treeOf(2, gate(1, 0), gate(1, 1)), []int64{1}, true},
		{"a gate and its own basic", treeOf(2, gate(1, 0, 1), gate(2, 0, 2)), []int64{0}, true}, {"a gate without its own basic", treeOf(2, gate(1, 0, 1), gate(2, 0, 2)), []int64{1}, false},
	} {
		failsAsWanted(t, c.x, c.set)
		if fails := impl.FailsBy(c.x, c.set); fails != c.fails {
			t.Error(c.name, fails)
		}
	}
	long := slices.Repeat([]int64{7, -3, 0}, 5000)
	if impl.FailsBy(x, long) || !impl.FailsBy(x, append(long, 1)) {
		t.Error("a long set")
	}
}

func TestP23CutsTold(t *testing.T) {
	for _, c := range []struct {
		name string
		x    impl.Tree
		cuts [][]int64
	}{
		{"one basic", gateRow(1, 1), [][]int64{{0}}}, {"one of three", treeOf(3, gate(1, 1)), [][]int64{{1}}}, {"each alone", needing(4, 1), [][]int64{{0}, {1}, {2}, {3}}},
		{"all together", needing(4, 4), [][]int64{{0, 1, 2, 3}}}, {"two of four", needing(4, 2), [][]int64{{0, 1}, {0, 2}, {0, 3}, {1, 2}, {1, 3}, {2, 3}}},
		{"three of five", needing(5, 3), [][]int64{{0, 1, 2}, {0, 1, 3}, {0, 1, 4}, {0, 2, 3}, {0, 2, 4}, {0, 3, 4}, {1, 2, 3}, {1, 2, 4}, {1, 3, 4}, {2, 3, 4}}},
		{"two ways", bridge(), [][]int64{{0, 1}, {0, 2}, {1, 2}, {3, 4}}},
		{"fewer first", treeOf(5, gate(3, 0, 1, 2), gate(2, 1, 4), gate(1, 3, 5, 6)), [][]int64{{3}, {1, 4}, {0, 1, 2}}},
		{"more hold fewer", treeOf(3, gate(2, 0, 1), gate(1, 0, 3)), [][]int64{{0}}},
		{"the same twice", treeOf(2, gate(2, 0, 1), gate(2, 0, 1), gate(1, 2, 3)), [][]int64{{0, 1}}},
		{"unlike numbers decide", treeOf(6, gate(2, 0, 5), gate(2, 1, 2), gate(2, 3, 4), gate(1, 6, 7, 8)), [][]int64{{0, 5}, {1, 2}, {3, 4}}},
		{"not right", treeOf(2, gate(3, 0, 1)), nil}, {"zero", impl.Tree{}, nil},
	} {
		if cuts := cutsAsWanted(t, c.x); !sameTable(cuts, c.cuts) {
			t.Error(c.name, cuts)
		}
	}
	if cuts := impl.MinCuts(needing(10, 5)); len(cuts) != 252 || !slices.Equal(cuts[0], []int64{0, 1, 2, 3, 4}) || !slices.Equal(cuts[251], []int64{5, 6, 7, 8, 9}) {
		t.Error("five of ten", len(cuts))
	}
}

func TestP23ChancesTold(t *testing.T) {
	either, both := needing(2, 1), needing(2, 2)
	for _, c := range []struct {
		name          string
		x             impl.Tree
		eighths       []int64
		chance, upper int64
	}{
		{"one of two", either, []int64{4, 2}, 40, 48}, {"both", both, []int64{4, 2}, 8, 8}, {"all 0", either, []int64{0, 0}, 0, 0}, {"all 8", either, []int64{8, 8}, 64, 128}, {"both all 8", both, []int64{8, 8}, 64, 64},
		{"one 8", either, []int64{8, 3}, 64, 88}, {"one 0", both, []int64{8, 0}, 0, 0}, {"too few", either, []int64{4}, -1, -1}, {"none", either, nil, -1, -1}, {"too many", either, []int64{4, 2, 1}, -1, -1},
		{"at -1", either, []int64{-1, 2}, -1, -1}, {"at 9", either, []int64{9, 2}, -1, -1}, {"the last at -1", either, []int64{4, -1}, -1, -1}, {"the last at 9", either, []int64{4, 9}, -1, -1},
		{"far off", either, []int64{math.MinInt64, math.MaxInt64}, -1, -1},
		{"a basic that nobody asks", treeOf(2, gate(1, 0)), []int64{3, 5}, 24, 24}, {"a basic that nobody asks at 9", treeOf(2, gate(1, 0)), []int64{3, 9}, -1, -1},
		{"two of three", needing(3, 2), []int64{4, 4, 4}, 256, 384}, {"ten sure ones", needing(10, 10), slices.Repeat([]int64{8}, 10), 1 << 30, 1 << 30},
		{"five of ten, all sure", needing(10, 5), slices.Repeat([]int64{8}, 10), 1 << 30, 252 << 30}, {"five of ten, none", needing(10, 5), make([]int64, 10), 0, 0},
		{"not right", treeOf(2, gate(3, 0, 1)), []int64{4, 2}, -1, -1},
	} {
		chancesAsWanted(t, c.x, c.eighths...)
		if chance, upper := impl.Chance(c.x, c.eighths), impl.Upper(c.x, c.eighths); chance != c.chance || upper != c.upper {
			t.Error(c.name, chance, upper)
		}
	}
}

func TestP23WeightsTold(t *testing.T) {
	either := needing(2, 1)
	for _, c := range []struct {
		name    string
		x       impl.Tree
		eighths []int64
		basic   int64
		weight  int64
	}{
		{"the first", either, []int64{4, 2}, 0, 48}, {"the last", either, []int64{4, 2}, 1, 32}, {"at -1", either, []int64{4, 2}, -1, -1}, {"one beyond", either, []int64{4, 2}, 2, -1},
		{"far off", either, []int64{4, 2}, math.MinInt64, -1}, {"far beyond", either, []int64{4, 2}, math.MaxInt64, -1},
		{"its own eighths change nothing", either, []int64{0, 2}, 0, 48}, {"nor when they are 8", either, []int64{8, 2}, 0, 48}, {"its own eighths at 9", either, []int64{9, 2}, 0, -1}, {"its own eighths at -1", either, []int64{-1, 2}, 0, -1},
		{"another one's at 9", either, []int64{4, 9}, 0, -1}, {"too few", either, []int64{4}, 0, -1}, {"too many", either, []int64{4, 2, 0}, 0, -1}, {"no number for it", either, []int64{4}, 1, -1},
		{"nobody asks it", treeOf(2, gate(1, 0)), []int64{3, 5}, 1, 0}, {"it alone", treeOf(2, gate(1, 0)), []int64{3, 5}, 0, 64}, {"another one is sure", either, []int64{3, 8}, 0, 0},
		{"a gate's number", either, []int64{4, 2}, 3, -1}, {"ten", needing(10, 10), slices.Repeat([]int64{8}, 10), 9, 1 << 30}, {"not right", treeOf(2, gate(3, 0, 1)), []int64{4, 2}, 0, -1},
	} {
		if w := impl.Weight(c.x, c.eighths, c.basic); w != c.weight {
			t.Error(c.name, w)
		}
	}
}

func TestP23CommonTold(t *testing.T) {
	x := bridge()
	hundred := slices.Repeat([][]int64{{0, 1}}, 100)
	for _, c := range []struct {
		name   string
		x      impl.Tree
		groups [][]int64
		places []int64
	}{
		{"no groups", x, nil, nil}, {"an empty group", x, [][]int64{{}}, nil}, {"an empty group among others", x, [][]int64{nil, {0, 1}, {}, {3, 4}}, []int64{1, 3}},
		{"no basics", x, [][]int64{{-1, 5, 6, 77}, {99}}, nil}, {"no basics among others", x, [][]int64{{-1, 4, 99, 3}, {5, 0, 6}}, []int64{0}},
		{"a cut and more", x, [][]int64{{0, 1, 3}, {3, 4, 0, 1, 2}, {0, 3}}, []int64{0, 1}}, {"twice the same group", x, [][]int64{{2, 1}, {2, 1}}, []int64{0, 1}},
		{"101 groups", x, append(slices.Clone(hundred), []int64{}), nil}, {"101 that fail", x, append(slices.Clone(hundred), []int64{0, 1}), nil}, {"100 groups", x, hundred, upTo(100)},
		{"not right", treeOf(2, gate(3, 0, 1)), [][]int64{{0, 1}}, nil},
	} {
		failsAsWanted(t, c.x, c.groups...)
		if places := impl.Common(c.x, c.groups); !slices.Equal(places, c.places) {
			t.Error(c.name, places)
		}
	}
}

// TestP23SmallTrees goes through all trees of three basics with one gate and with
// a second one that asks the first, all sets, and many eighths.
func TestP23SmallTrees(t *testing.T) {
	for first := range 8 {
		for need := range int64(5) {
			g := gate(need, setOf(first, 3)...)
			everyWay(t, treeOf(3, g))
			for second := range 16 {
				for many := int64(1); many <= 4; many++ {
					everyWay(t, treeOf(3, g, gate(many, setOf(second, 4)...)))
				}
			}
		}
	}
}

// everyWay wants three basics.
func everyWay(t *testing.T, x impl.Tree) {
	t.Helper()
	for set := range 16 {
		failsAsWanted(t, x, setOf(set, 4))
	}
	cutsAsWanted(t, x)
	allSays(3, 4, func(says []int64) {
		chancesAsWanted(t, x, says[0]*8/3, says[1]*8/3, says[2]*8/3)
	})
}

// someTree is right; its gates lean on those just ahead of them more than on basics.
func someTree(seed int64, basics int64, gates int64) impl.Tree {
	x := impl.Tree{Basics: basics}
	for place := range gates {
		ins := []int64{}
		beyond := basics + place
		for _, pick := range someNumbers(seed*50+place, 5, 0, 1000000) {
			in := pick % beyond
			if place > 0 && pick%3 == 0 {
				in = beyond - 1
			}
			if !slices.Contains(ins, in) {
				ins = append(ins, in)
			}
		}
		slices.Sort(ins)
		x.Gates = append(x.Gates, gate(1+someNumbers(seed+place, 1, 0, 100)[0]%int64(len(ins)), ins...))
	}
	return x
}

func TestP23SomeTrees(t *testing.T) {
	for seed := range int64(150) {
		basics, gates := 1+seed%7, 1+seed*3%20
		if seed%25 == 0 {
			basics = 10
		}
		x := someTree(seed, basics, gates)
		if !impl.TreeOk(x) {
			t.Fatal(x)
		}
		for turn := range int64(5) {
			failsAsWanted(t, x, someNumbers(seed*9+turn, int(seed%9), -1, basics+1), someNumbers(seed*9+turn+5, 4, 0, basics-1))
		}
		cutsAsWanted(t, x)
		chancesAsWanted(t, x, someNumbers(seed, int(basics), 0, 8)...)
	}
}

// TestP23AllCuts: it fails by a set just when a cut is in it, and no cut holds another one.
func TestP23AllCuts(t *testing.T) {
	for seed := range int64(60) {
		x := someTree(seed, 2+seed%9, 1+seed%20)
		cuts := impl.MinCuts(x)
		for set := range 1 << x.Basics {
			list := setOf(set, int(x.Basics))
			held := slices.ContainsFunc(cuts, func(cut []int64) bool { return holdsAll(list, cut) })
			if impl.FailsBy(x, list) != held {
				t.Fatal(x, list, cuts)
			}
		}
		for i, a := range cuts {
			for j, b := range cuts {
				if i != j && holdsAll(a, b) || i < j && (len(a) > len(b) || len(a) == len(b) && slices.Compare(a, b) >= 0) {
					t.Fatal(x, a, b)
				}
			}
		}
	}
}

// TestP23WeightIsTheChange: for each eighth more of a basic a chance grows by an
// eighth of its weight.
func TestP23WeightIsTheChange(t *testing.T) {
	for seed := range int64(60) {
		x := someTree(seed, 1+seed%10, 1+seed%9)
		eighths := someNumbers(seed, int(x.Basics), 0, 8)
		basic := seed % x.Basics
		weight := impl.Weight(x, eighths, basic)
		if weight < 0 {
			t.Fatal("it fails by fewer", x, eighths, weight)
		}
		for e := range int64(8) {
			less, more := slices.Clone(eighths), slices.Clone(eighths)
			less[basic], more[basic] = e, e+1
			if 8*(impl.Chance(x, more)-impl.Chance(x, less)) != weight {
				t.Error(x, eighths, basic, e, weight)
			}
		}
	}
}

// TestP23ShareAndRest: chances of a tree and of the sets by which it does not fail
// are all there is.
func TestP23ShareAndRest(t *testing.T) {
	for n := int64(1); n <= 10; n++ {
		eighths := someNumbers(n, int(n), 0, 8)
		for need := int64(1); need <= n; need++ {
			rest := slices.Clone(eighths)
			for i := range rest {
				rest[i] = 8 - rest[i]
			}
			whole := impl.Chance(needing(n, need), eighths) + impl.Chance(needing(n, n+1-need), rest)
			if whole != 1<<(3*n) {
				t.Error(n, need, eighths, whole)
			}
		}
	}
}

func TestP23AnswersAreNew(t *testing.T) {
	x, eighths, groups := bridge(), []int64{1, 2, 3, 4, 5}, [][]int64{{0, 1}, {3, 4}}
	roomy := make([]int64, 5, 9)
	copy(roomy, eighths)
	cuts, common := impl.MinCuts(x), impl.Common(x, groups)
	for _, cut := range cuts {
		for i := range cut {
			cut[i] = -7
		}
		_ = append(cut, -8)
	}
	common[0] = -7
	_ = impl.Weight(x, roomy, 4)
	if !sameTree(x, bridge()) || !sameTable(groups, [][]int64{{0, 1}, {3, 4}}) || !slices.Equal(roomy[:9], []int64{1, 2, 3, 4, 5, 0, 0, 0, 0}) {
		t.Error("an argument was written into", x, groups, roomy[:9])
	}
	for _, cut := range cuts {
		if !slices.Equal(cut, []int64{-7, -7}) {
			t.Error("two lists of one answer share", cuts)
		}
	}
	if again := impl.MinCuts(x); !sameTable(again, [][]int64{{0, 1}, {0, 2}, {1, 2}, {3, 4}}) || !slices.Equal(impl.Common(x, groups), []int64{0, 1}) {
		t.Error("something was kept", again)
	}
}
