package tests

import (
	"math"
	"slices"
	"testing"

	"loop.example/g00062/impl"
)

func TestP22Constants(t *testing.T) {
	if impl.MaxDucts != 40 || impl.MaxPermits != 20 {
		t.Error("a limit")
	}
	codes := []int64{impl.PmBook, impl.PmForm, impl.PmThere, impl.PmPlace, impl.PmUnsafe, impl.PmMany, impl.PmNone}
	if !slices.Equal(codes, []int64{1, 2, 3, 4, 5, 6, 7}) {
		t.Error("a code", codes)
	}
}

// netOf takes the ends of ducts two by two.
func netOf(places int64, from []int64, ends ...int64) impl.Net {
	n := impl.Net{Places: places, Sources: from}
	for i := 0; i < len(ends); i += 2 {
		n.Ducts = append(n.Ducts, impl.Duct{A: ends[i], B: ends[i+1]})
	}
	return n
}

// manyDucts has n ducts between places 0, the source, and 1.
func manyDucts(n int) impl.Net {
	return impl.Net{Places: 3, Ducts: slices.Repeat([]impl.Duct{{A: 0, B: 1}}, n), Sources: []int64{0}}
}

// ring has its source at 0; duct i leads from place i to the next one round.
func ring(n int64) impl.Net {
	out := netOf(n, []int64{0})
	for i := range n {
		out.Ducts = append(out.Ducts, impl.Duct{A: i, B: (i + 1) % n})
	}
	return out
}

func permit(id int64, place int64, valves ...int64) impl.Permit {
	return impl.Permit{Id: id, Place: place, Valves: valves}
}

func book(open ...impl.Permit) impl.Book {
	return impl.Book{Open: open}
}

func samePermit(a impl.Permit, b impl.Permit) bool {
	return a.Id == b.Id && a.Place == b.Place && slices.Equal(a.Valves, b.Valves)
}

func sameBook(a impl.Book, b impl.Book) bool {
	return slices.EqualFunc(a.Open, b.Open, samePermit)
}

func bookCopy(b impl.Book) impl.Book {
	out := impl.Book{}
	for _, p := range b.Open {
		out.Open = append(out.Open, permit(p.Id, p.Place, slices.Clone(p.Valves)...))
	}
	return out
}

func netCopy(n impl.Net) impl.Net {
	return impl.Net{Places: n.Places, Ducts: slices.Clone(n.Ducts), Sources: slices.Clone(n.Sources)}
}

func sameNet(a impl.Net, b impl.Net) bool {
	return a.Places == b.Places && slices.Equal(a.Ducts, b.Ducts) && slices.Equal(a.Sources, b.Sources)
}

func risesFrom(list []int64, low int64, high int64) bool {
	last := low - 1
	for _, n := range list {
		if n <= last || n > high {
			return false
		}
		last = n
	}
	return true
}

func wantNet(n impl.Net) bool {
	if n.Places < 1 || n.Places > 30 || len(n.Ducts) > 40 {
		return false
	}
	for _, d := range n.Ducts {
		if d.A < 0 || d.B < 0 || d.A >= n.Places || d.B >= n.Places || d.A == d.B {
			return false
		}
	}
	return risesFrom(n.Sources, 0, n.Places-1)
}

// wantCut floods the places as often as there are some.
func wantCut(n impl.Net, shut []int64, place int64) bool {
	if !wantNet(n) || place < 0 || place >= n.Places {
		return false
	}
	wet := make([]bool, n.Places)
	for _, from := range n.Sources {
		wet[from] = true
	}
	for range n.Places {
		for valve, d := range n.Ducts {
			if !slices.Contains(shut, int64(valve)) {
				both := wet[d.A] || wet[d.B]
				wet[d.A], wet[d.B] = both, both
			}
		}
	}
	return !wet[place]
}

// wantFewest tries all lists of one length, from the least on, then longer ones.
func wantFewest(n impl.Net, place int64) ([]int64, bool) {
	for long := 0; len(n.Ducts) <= 14 && long <= len(n.Ducts); long++ {
		if list, ok := cutBehind(n, place, nil, 0, long); ok {
			return list, true
		}
	}
	return nil, false
}

func cutBehind(n impl.Net, place int64, begun []int64, from int64, long int) ([]int64, bool) {
	if len(begun) == long {
		return begun, wantCut(n, begun, place)
	}
	for valve := from; valve < int64(len(n.Ducts)); valve++ {
		if list, ok := cutBehind(n, place, append(slices.Clone(begun), valve), valve+1, long); ok {
			return list, true
		}
	}
	return nil, false
}

func wantPermitForm(n impl.Net, p impl.Permit) bool {
	return p.Id >= 1 && p.Id <= 1000000 && p.Place >= 0 && p.Place < n.Places && risesFrom(p.Valves, 0, int64(len(n.Ducts))-1)
}

func wantBook(n impl.Net, b impl.Book) bool {
	if !wantNet(n) || len(b.Open) > 20 {
		return false
	}
	ids := []int64{}
	for i, p := range b.Open {
		ids = append(ids, p.Id)
		for _, other := range b.Open[:i] {
			if other.Place == p.Place {
				return false
			}
		}
		if !wantPermitForm(n, p) || !wantCut(n, p.Valves, p.Place) {
			return false
		}
	}
	return risesFrom(ids, 1, 1000000)
}

func wantGrant(n impl.Net, b impl.Book, p impl.Permit) (impl.Book, int64) {
	if !wantBook(n, b) {
		return impl.Book{}, 1
	}
	if !wantPermitForm(n, p) {
		return b, 2
	}
	for _, other := range b.Open {
		if other.Id == p.Id {
			return b, 3
		}
	}
	for _, other := range b.Open {
		if other.Place == p.Place {
			return b, 4
		}
	}
	if !wantCut(n, p.Valves, p.Place) {
		return b, 5
	}
	if len(b.Open) == 20 {
		return b, 6
	}
	out := book(append(slices.Clone(b.Open), p)...)
	slices.SortFunc(out.Open, func(a, b impl.Permit) int { return int(a.Id - b.Id) })
	return out, 0
}

func wantGiveBack(n impl.Net, b impl.Book, id int64) (impl.Book, []int64, int64) {
	if !wantBook(n, b) {
		return impl.Book{}, nil, 1
	}
	out, free, given := impl.Book{}, []int64{}, impl.Permit{}
	for _, p := range b.Open {
		if p.Id == id {
			given = p
		} else {
			out.Open = append(out.Open, p)
		}
	}
	if given.Id == 0 {
		return b, nil, 7
	}
	for _, valve := range given.Valves {
		if !slices.ContainsFunc(out.Open, func(p impl.Permit) bool { return slices.Contains(p.Valves, valve) }) {
			free = append(free, valve)
		}
	}
	return out, free, 0
}

func wantTags(n impl.Net, b impl.Book) []int64 {
	if !wantBook(n, b) {
		return nil
	}
	tags := []int64{}
	for valve := range n.Ducts {
		count := int64(0)
		for _, p := range b.Open {
			count += flag(slices.Contains(p.Valves, int64(valve)))
		}
		tags = append(tags, count)
	}
	return tags
}

// cutsOff holds what is said of a net with some valves shut, of all of its places
// and those just beyond, against what is wanted.
func cutsOff(t *testing.T, n impl.Net, shut ...int64) {
	t.Helper()
	kept, keptShut := netCopy(n), slices.Clone(shut)
	if ok := impl.NetOk(n); ok != wantNet(n) {
		t.Error("right", n, ok)
	}
	for place := int64(-1); place <= min(n.Places, 31); place++ {
		if cut := impl.CutOff(n, shut, place); cut != wantCut(n, shut, place) {
			t.Error("cut off", n, shut, place, cut)
		}
	}
	if !sameNet(n, kept) || !slices.Equal(shut, keptShut) {
		t.Error("written into", n, shut)
	}
}

func fewest(t *testing.T, n impl.Net, place int64) ([]int64, bool) {
	t.Helper()
	kept := netCopy(n)
	list, ok := impl.Fewest(n, place)
	if want, may := wantFewest(n, place); ok != may || !slices.Equal(list, want) {
		t.Error(n, place, list, ok, want, may)
	}
	if ok && !impl.CutOff(n, list, place) {
		t.Error("not enough", n, place, list)
	}
	if !sameNet(n, kept) {
		t.Error("written into", n)
	}
	return list, ok
}

// booked holds all that is said of a book against what is wanted.
func booked(t *testing.T, n impl.Net, b impl.Book) bool {
	t.Helper()
	kept, keptNet, right := bookCopy(b), netCopy(n), wantBook(n, b)
	if ok := impl.BookOk(n, b); ok != right {
		t.Error("right", n, b, ok, right)
	}
	tags := impl.Tags(n, b)
	if !slices.Equal(tags, wantTags(n, b)) {
		t.Error("tags", n, b, tags, wantTags(n, b))
	}
	for valve := int64(-1); valve <= int64(len(n.Ducts)); valve++ {
		may := right && valve >= 0 && valve < int64(len(n.Ducts)) && wantTags(n, b)[valve] == 0
		if ok := impl.MayOpen(n, b, valve); ok != may {
			t.Error("may open", n, b, valve, ok, may)
		}
	}
	if !sameBook(b, kept) || !sameNet(n, keptNet) {
		t.Error("written into", n, b)
	}
	return right
}

func grants(t *testing.T, n impl.Net, b impl.Book, p impl.Permit) (impl.Book, int64) {
	t.Helper()
	kept, keptNet, valves := bookCopy(b), netCopy(n), slices.Clone(p.Valves)
	next, code := impl.Grant(n, b, p)
	if want, told := wantGrant(n, b, p); code != told || !sameBook(next, want) {
		t.Error(n, b, p, next, code, want, told)
	}
	if code != impl.PmBook && !impl.BookOk(n, next) {
		t.Error("not right any more", n, b, p, next)
	}
	if !sameBook(b, kept) || !sameNet(n, keptNet) || !slices.Equal(p.Valves, valves) {
		t.Error("written into", n, b, p)
	}
	return next, code
}

func givesBack(t *testing.T, n impl.Net, b impl.Book, id int64) (impl.Book, []int64, int64) {
	t.Helper()
	kept, keptNet := bookCopy(b), netCopy(n)
	next, free, code := impl.GiveBack(n, b, id)
	if want, frees, told := wantGiveBack(n, b, id); code != told || !sameBook(next, want) || !slices.Equal(free, frees) {
		t.Error(n, b, id, next, free, code, want, frees, told)
	}
	if code != impl.PmBook && !impl.BookOk(n, next) {
		t.Error("not right any more", n, b, id, next)
	}
	if !sameBook(b, kept) || !sameNet(n, keptNet) {
		t.Error("written into", n, b)
	}
	return next, free, code
}

// refusesAll: a net that is not right has one answer of each function.
func refusesAll(t *testing.T, n impl.Net) {
	t.Helper()
	if impl.NetOk(n) || impl.CutOff(n, nil, 0) || impl.CutOff(n, []int64{0, 1, 2}, 1) {
		t.Error("cut off", n)
	}
	if list, ok := impl.Fewest(n, 1); ok || len(list) != 0 {
		t.Error(n, list, ok)
	}
	for _, b := range []impl.Book{{}, book(permit(1, 1, 0, 1))} {
		if impl.BookOk(n, b) || len(impl.Tags(n, b)) != 0 || impl.MayOpen(n, b, 0) {
			t.Error("a book", n, b)
		}
		if next, code := impl.Grant(n, b, permit(2, 2)); code != impl.PmBook || len(next.Open) != 0 {
			t.Error(n, b, next, code)
		}
		if next, free, code := impl.GiveBack(n, b, 1); code != impl.PmBook || len(next.Open) != 0 || len(free) != 0 {
			t.Error(n, b, next, free, code)
		}
	}
}

func TestP22Nets(t *testing.T) {
	none := []int64{}
	for _, c := range []struct {
		name  string
		n     impl.Net
		right bool
	}{
		{"zero", impl.Net{}, false},
		{"no places", netOf(0, nil), false},
		{"below 0", netOf(-1, nil), false},
		{"far below", netOf(math.MinInt64, nil), false},
		{"one place", netOf(1, nil), true},
		{"one place, its own source", netOf(1, []int64{0}), true},
		{"30 places", netOf(30, []int64{0, 29}, 0, 29), true},
		{"31 places", netOf(31, []int64{0, 29}, 0, 29), false},
		{"far too many", netOf(math.MaxInt64, nil, 0, 1), false},
		{"no ducts", netOf(3, []int64{1}), true},
		{"40 ducts", manyDucts(40), true},
		{"41 ducts", manyDucts(41), false},
		{"A and B alike", netOf(3, none, 0, 1, 2, 2), false},
		{"A below", netOf(3, none, 0, 1, -1, 2), false},
		{"B below", netOf(3, none, 0, 1, 2, -1), false},
		{"A beyond", netOf(3, none, 3, 1, 0, 2), false},
		{"B beyond", netOf(3, none, 1, 3, 0, 2), false},
		{"A far off", netOf(3, none, math.MinInt64, 1), false},
		{"B far off", netOf(3, none, 1, math.MaxInt64), false},
		{"both the last", netOf(3, none, 1, 2, 2, 0), true},
		{"two of the same places", netOf(3, none, 0, 1, 0, 1, 1, 0), true},
		{"no sources", netOf(3, nil, 0, 1), true},
		{"all are sources", netOf(3, []int64{0, 1, 2}, 0, 1), true},
		{"sources do not rise", netOf(3, []int64{1, 0}, 0, 1), false},
		{"twice the same", netOf(3, []int64{1, 1}, 0, 1), false},
		{"a source below", netOf(3, []int64{-1, 0}, 0, 1), false},
		{"a source beyond", netOf(3, []int64{0, 3}, 0, 1), false},
		{"a source far off", netOf(3, []int64{math.MinInt64, math.MaxInt64}, 0, 1), false},
		{"more sources than places", netOf(2, []int64{0, 1, 2}), false},
	} {
		if ok := impl.NetOk(c.n); ok != c.right {
			t.Error(c.name, c.n, ok)
		}
		cutsOff(t, c.n)
		booked(t, c.n, impl.Book{})
		if !c.right {
			refusesAll(t, c.n)
		}
	}
}

func TestP22CutOffTold(t *testing.T) {
	triangle := netOf(3, []int64{0}, 0, 1, 1, 2, 2, 0)
	row := netOf(5, []int64{0}, 0, 1, 1, 2, 3, 2)
	two := netOf(4, []int64{0, 3}, 0, 1, 1, 2, 2, 3)
	for _, c := range []struct {
		name  string
		n     impl.Net
		shut  []int64
		place int64
		cut   bool
	}{
		{"a source", triangle, nil, 0, false}, {"a source, all shut", triangle, []int64{0, 1, 2}, 0, false},
		{"nothing shut", triangle, nil, 1, false}, {"one way is left", triangle, []int64{0}, 1, false}, {"the other way is left", triangle, []int64{1}, 1, false},
		{"both shut", triangle, []int64{0, 1}, 1, true}, {"both shut, further off", triangle, []int64{0, 2}, 1, true}, {"in any order", triangle, []int64{2, 0}, 1, true},
		{"not the ones of this place", triangle, []int64{0, 1}, 2, false}, {"twice the same", triangle, []int64{1, 1}, 1, false}, {"twice the same, and the other", triangle, []int64{1, 0, 1, 0, 0}, 1, true},
		{"no valves", triangle, []int64{-1, 3, 77, math.MinInt64, math.MaxInt64}, 1, false}, {"no valves among others", triangle, []int64{-1, 0, 3, 1, 77}, 1, true},
		{"against the way it was told", row, nil, 3, false}, {"in the midst", row, []int64{1}, 3, true}, {"in the midst, ahead of it", row, []int64{1}, 1, false}, {"at the end", row, []int64{2}, 3, true},
		{"no duct leads to it", row, nil, 4, true}, {"no duct leads to it, some shut", row, []int64{0}, 4, true},
		{"below", row, []int64{0}, -1, false}, {"beyond", row, []int64{0}, 5, false}, {"far off", row, []int64{0}, math.MinInt64, false}, {"far off", row, []int64{0}, math.MaxInt64, false},
		{"two sources, one shut", two, []int64{0}, 1, false}, {"two sources, both shut", two, []int64{0, 2}, 1, true}, {"two sources, near", two, []int64{0, 1}, 1, true}, {"two sources, the other place", two, []int64{0, 1}, 2, false},
		{"the second source", two, []int64{0, 1, 2}, 3, false},
		{"no source", netOf(2, nil, 0, 1), nil, 0, true}, {"no source, no ducts", netOf(2, nil), nil, 1, true},
		{"two ducts, one shut", netOf(2, []int64{1}, 0, 1, 1, 0), []int64{1}, 0, false}, {"two ducts, both shut", netOf(2, []int64{1}, 0, 1, 1, 0), []int64{1, 0}, 0, true},
		{"not right", netOf(2, []int64{1}, 0, 0), nil, 0, false},
	} {
		cutsOff(t, c.n, c.shut...)
		if cut := impl.CutOff(c.n, c.shut, c.place); cut != c.cut {
			t.Error(c.name, cut)
		}
	}
}

// TestP22SmallNets goes through all nets of three places and up to three ducts,
// with all sources, all that may be shut, and all permits that could be open.
func TestP22SmallNets(t *testing.T) {
	ends := [][]int64{{0, 1}, {1, 0}, {0, 2}, {2, 0}, {1, 2}, {2, 1}}
	for many := range 4 {
		allSays(many, int64(len(ends)), func(says []int64) {
			for from := range 8 {
				n := netOf(3, nil)
				for _, s := range says {
					n.Ducts = append(n.Ducts, impl.Duct{A: ends[s][0], B: ends[s][1]})
				}
				for place, is := range flagsOf(from, 3) {
					if is {
						n.Sources = append(n.Sources, int64(place))
					}
				}
				for shut := range 1 << many {
					cutsOff(t, n, setOf(shut, many)...)
				}
				for place := int64(-1); place <= 3; place++ {
					fewest(t, n, place)
				}
			}
		})
	}
}

func setOf(bits int, n int) []int64 {
	list := []int64{}
	for i, is := range flagsOf(bits, n) {
		if is {
			list = append(list, int64(i))
		}
	}
	return list
}

func someNet(seed int64, places int64, ducts int, froms int64) impl.Net {
	n := netOf(places, nil)
	for place := range places {
		if someNumbers(seed+place, 1, 0, places-1)[0] < froms {
			n.Sources = append(n.Sources, place)
		}
	}
	picks := someNumbers(seed+77, 2*ducts, 0, 1000000)
	for i := range ducts {
		a := picks[2*i] % places
		n.Ducts = append(n.Ducts, impl.Duct{A: a, B: (a + 1 + picks[2*i+1]%(places-1)) % places})
	}
	return n
}

func TestP22SomeNets(t *testing.T) {
	for seed := range int64(300) {
		places := 2 + seed%29
		n := someNet(seed, places, int(seed*7%41), 1+seed%3)
		if !impl.NetOk(n) {
			t.Fatal(n)
		}
		for turn := range int64(4) {
			shut := someNumbers(seed*10+turn, int(seed%50), -2, int64(len(n.Ducts))+2)
			cutsOff(t, n, shut...)
		}
		for _, place := range someNumbers(seed, 3, 0, places-1) {
			if len(n.Ducts) > 14 {
				n.Ducts = n.Ducts[:seed%10]
			}
			fewest(t, n, place)
		}
	}
}

func TestP22FewestTold(t *testing.T) {
	for _, c := range []struct {
		name  string
		n     impl.Net
		place int64
		list  []int64
		ok    bool
	}{
		{"one is enough", netOf(2, []int64{0}, 0, 1), 1, []int64{0}, true},
		{"several as few, the least", netOf(4, []int64{0}, 0, 1, 1, 2, 2, 3), 3, []int64{0}, true},
		{"several as few, in another order", netOf(4, []int64{0}, 2, 3, 1, 2, 0, 1), 2, []int64{1}, true},
		{"a ring", ring(6), 3, []int64{0, 3}, true},
		{"a ring, next to the source", ring(6), 1, []int64{0, 1}, true},
		{"a ring, at its end", ring(6), 5, []int64{0, 5}, true},
		{"fewer, though they are later ones", netOf(4, []int64{0}, 0, 1, 0, 2, 1, 2, 2, 3), 3, []int64{3}, true},
		{"a source", netOf(2, []int64{0}, 0, 1), 0, nil, false},
		{"no source", netOf(2, nil, 0, 1), 0, nil, true},
		{"cut off with none shut", netOf(3, []int64{0}, 0, 1), 2, nil, true},
		{"no ducts", netOf(2, []int64{0}), 1, nil, true},
		{"no ducts, a source", netOf(2, []int64{0}), 0, nil, false},
		{"below", netOf(2, []int64{0}, 0, 1), -1, nil, false},
		{"beyond", netOf(2, []int64{0}, 0, 1), 2, nil, false},
		{"far off", netOf(2, []int64{0}, 0, 1), math.MinInt64, nil, false},
		{"not right", netOf(2, []int64{0}, 0, 1, 1, 1), 1, nil, false},
		{"14 ducts", manyDucts(14), 1, []int64{0, 1, 2, 3, 4, 5, 6, 7, 8, 9, 10, 11, 12, 13}, true},
		{"14 ducts, cut off with none shut", manyDucts(14), 2, nil, true},
		{"14 ducts of a ring", ring(14), 7, []int64{0, 7}, true},
		{"15 ducts", manyDucts(15), 1, nil, false},
		{"15 ducts, cut off with none shut", manyDucts(15), 2, nil, false},
		{"15 ducts of a ring", ring(15), 7, nil, false},
		{"two sources", netOf(4, []int64{0, 3}, 0, 1, 1, 2, 2, 3), 2, []int64{0, 2}, true},
		{"all sources but one", netOf(4, []int64{0, 1, 3}, 0, 2, 2, 1, 3, 2, 0, 1), 2, []int64{0, 1, 2}, true},
	} {
		if list, ok := fewest(t, c.n, c.place); ok != c.ok || !slices.Equal(list, c.list) {
			t.Error(c.name, list, ok)
		}
	}
}

// TestP22FewestAreEnough: without one of them the place is not cut off, and by no
// list that is shorter.
func TestP22FewestAreEnough(t *testing.T) {
	for seed := range int64(60) {
		n := someNet(seed, 3+seed%6, int(seed%15), 1)
		for place := range n.Places {
			list, ok := impl.Fewest(n, place)
			if ok == slices.Contains(n.Sources, place) || ok && !impl.CutOff(n, list, place) {
				t.Fatal(n, place, list, ok)
			}
			for i := range list {
				if impl.CutOff(n, slices.Delete(slices.Clone(list), i, i+1), place) {
					t.Error("one too many", n, place, list)
				}
			}
		}
	}
}

// lane has a source at 0 and a duct from it to each other place: valve k shuts
// place k + 1 off.
func lane(places int64) impl.Net {
	n := netOf(places, []int64{0})
	for place := int64(1); place < places; place++ {
		n.Ducts = append(n.Ducts, impl.Duct{A: 0, B: place})
	}
	return n
}

// fullBook has n permits of a lane, with Ids 10, 20 and so on.
func fullBook(n int64) impl.Book {
	b := impl.Book{}
	for place := int64(1); place <= n; place++ {
		b.Open = append(b.Open, permit(10*place, place, place-1))
	}
	return b
}

func TestP22Books(t *testing.T) {
	n := lane(30)
	for _, c := range []struct {
		name  string
		b     impl.Book
		right bool
	}{
		{"none", impl.Book{}, true}, {"one", fullBook(1), true}, {"20", fullBook(20), true}, {"21", fullBook(21), false}, {"29", fullBook(29), false},
		{"Id 0", book(permit(0, 1, 0)), false}, {"Id 1", book(permit(1, 1, 0)), true}, {"Id below", book(permit(-5, 1, 0), permit(1, 2, 1)), false},
		{"Id 1000000", book(permit(1000000, 1, 0)), true}, {"Id beyond", book(permit(1000001, 1, 0)), false}, {"Id beyond, behind another one", book(permit(5, 2, 1), permit(1000001, 1, 0)), false},
		{"Ids far off", book(permit(math.MinInt64, 1, 0), permit(math.MaxInt64, 2, 1)), false},
		{"Ids do not rise", book(permit(2, 1, 0), permit(1, 2, 1)), false}, {"Ids alike", book(permit(2, 1, 0), permit(2, 2, 1)), false}, {"Ids alike, one between", book(permit(2, 1, 0), permit(3, 3, 2), permit(2, 2, 1)), false},
		{"Places do not rise", book(permit(1, 5, 4), permit(2, 3, 2)), true},
		{"two of one Place", book(permit(1, 1, 0), permit(2, 1, 0)), false}, {"two of one Place, one between", book(permit(1, 1, 0), permit(2, 2, 1), permit(3, 1, 0, 1)), false},
		{"a Place below", book(permit(1, -1, 0)), false}, {"a Place beyond", book(permit(1, 30, 0)), false}, {"the last Place", book(permit(1, 29, 28)), true}, {"a Place far off", book(permit(1, math.MinInt64)), false},
		{"Valves do not rise", book(permit(1, 2, 1, 0)), false}, {"Valves alike", book(permit(1, 2, 1, 1)), false}, {"more Valves than needed", book(permit(1, 2, 0, 1, 2, 28)), true},
		{"a Valve below", book(permit(1, 2, -1, 1)), false}, {"a Valve beyond", book(permit(1, 2, 1, 29)), false}, {"a Valve far off", book(permit(1, 2, 1, math.MaxInt64)), false},
		{"not cut off", book(permit(1, 2, 0)), false}, {"not cut off, no Valves", book(permit(1, 2)), false}, {"the second is not cut off", book(permit(1, 1, 0), permit(2, 2, 0, 2)), false},
		{"by the Valves of another one", book(permit(1, 1, 0, 1), permit(2, 2)), false}, {"a source", book(permit(1, 0, 0, 1, 2)), false},
		{"a Valve of two", book(permit(1, 1, 0, 1), permit(2, 2, 0, 1)), true},
	} {
		if ok := booked(t, n, c.b); ok != c.right {
			t.Error(c.name, ok)
		}
		next, code := grants(t, n, c.b, permit(500, 25, 24))
		given, free, back := givesBack(t, n, c.b, 1)
		if c.right != (code != impl.PmBook) || c.right != (back != impl.PmBook) {
			t.Error(c.name, code, back)
		}
		if !c.right && (len(next.Open) != 0 || len(given.Open) != 0 || len(free) != 0) {
			t.Error(c.name, next, given, free)
		}
	}
	if !booked(t, netOf(3, []int64{0}, 0, 1), book(permit(1, 2))) {
		t.Error("a place that is cut off with none shut")
	}
}

func TestP22GrantTold(t *testing.T) {
	n := lane(30)
	b := book(permit(5, 1, 0), permit(9, 2, 1))
	for _, c := range []struct {
		name string
		b    impl.Book
		p    impl.Permit
		code int64
	}{
		{"ahead of all", b, permit(1, 3, 2), 0}, {"between two", b, permit(7, 3, 2), 0}, {"behind all", b, permit(1000000, 3, 2), 0}, {"the first one", impl.Book{}, permit(4, 3, 2), 0},
		{"with more Valves than needed", b, permit(6, 3, 0, 1, 2, 3), 0},
		{"Id 0", b, permit(0, 3, 2), impl.PmForm}, {"Id below", b, permit(math.MinInt64, 3, 2), impl.PmForm}, {"Id beyond", b, permit(1000001, 3, 2), impl.PmForm},
		{"Place below", b, permit(6, -1, 2), impl.PmForm}, {"Place beyond", b, permit(6, 30, 2), impl.PmForm},
		{"Valves do not rise", b, permit(6, 3, 2, 1), impl.PmForm}, {"Valves alike", b, permit(6, 3, 2, 2), impl.PmForm}, {"a Valve below", b, permit(6, 3, -1, 2), impl.PmForm}, {"a Valve beyond", b, permit(6, 3, 2, 29), impl.PmForm},
		{"its Id is there", b, permit(5, 3, 2), impl.PmThere}, {"the last Id is there", b, permit(9, 3, 2), impl.PmThere},
		{"its Place has one", b, permit(6, 1, 0), impl.PmPlace}, {"the last Place has one", b, permit(6, 2, 1), impl.PmPlace},
		{"not cut off", b, permit(6, 3, 1), impl.PmUnsafe}, {"no Valves", b, permit(6, 3), impl.PmUnsafe}, {"a source", b, permit(6, 0, 0, 1, 2), impl.PmUnsafe},
		{"19 are open", fullBook(19), permit(7, 25, 24), 0}, {"20 are open", fullBook(20), permit(7, 25, 24), impl.PmMany},
		{"form and Id", b, permit(5, 3, 2, 1), impl.PmForm}, {"form and Place", b, permit(0, 1, 0), impl.PmForm}, {"form and not cut off", b, permit(6, 3, 77), impl.PmForm}, {"form and many", fullBook(20), permit(0, 25, 24), impl.PmForm},
		{"Id and Place", b, permit(5, 2, 1), impl.PmThere}, {"Id and not cut off", b, permit(9, 3), impl.PmThere}, {"Id and many", fullBook(20), permit(10, 25, 24), impl.PmThere},
		{"Place and not cut off", b, permit(6, 1), impl.PmPlace}, {"Place and many", fullBook(20), permit(7, 20, 19), impl.PmPlace},
		{"not cut off and many", fullBook(20), permit(7, 25), impl.PmUnsafe},
		{"all but form", fullBook(20), permit(10, 20), impl.PmThere}, {"all", fullBook(20), permit(10, 20, 5, 4), impl.PmForm},
		{"a wrong book and all else", book(permit(1, 1)), permit(0, 77, 5, 4), impl.PmBook}, {"a wrong book alone", book(permit(1, 1)), permit(6, 3, 2), impl.PmBook}, {"21 are open", fullBook(21), permit(7, 25, 24), impl.PmBook},
	} {
		next, code := grants(t, n, c.b, c.p)
		if code != c.code {
			t.Error(c.name, next, code, c.code)
		}
		switch {
		case code == 0:
			ids := []int64{}
			for _, p := range next.Open {
				ids = append(ids, p.Id)
			}
			at := slices.Index(ids, c.p.Id)
			if len(ids) != len(c.b.Open)+1 || !slices.IsSorted(ids) || at < 0 || !samePermit(next.Open[at], c.p) {
				t.Error(c.name, next)
			}
		case code == impl.PmBook:
			if len(next.Open) != 0 {
				t.Error(c.name, next)
			}
		case !sameBook(next, c.b):
			t.Error(c.name, "not as it was", next)
		}
	}
	cut := netOf(3, []int64{0}, 0, 1)
	if next, code := grants(t, cut, impl.Book{}, permit(3, 2)); code != 0 || !sameBook(next, book(permit(3, 2))) {
		t.Error("cut off with none shut", next, code)
	}
}

func TestP22GiveBackTold(t *testing.T) {
	n := lane(6)
	b := book(permit(3, 1, 0, 1, 4), permit(5, 2, 1), permit(8, 3, 1, 2, 3))
	for _, c := range []struct {
		name string
		b    impl.Book
		id   int64
		left impl.Book
		free []int64
		code int64
	}{
		{"the first", b, 3, book(b.Open[1], b.Open[2]), []int64{0, 4}, 0},
		{"all of its valves are another one's", b, 5, book(b.Open[0], b.Open[2]), nil, 0},
		{"the last", b, 8, book(b.Open[0], b.Open[1]), []int64{2, 3}, 0},
		{"the only one", book(permit(7, 4, 1, 3)), 7, impl.Book{}, []int64{1, 3}, 0},
		{"not there, between", b, 4, b, nil, impl.PmNone}, {"not there, ahead", b, 1, b, nil, impl.PmNone}, {"not there, behind", b, 9, b, nil, impl.PmNone},
		{"no id", b, 0, b, nil, impl.PmNone}, {"far off", b, math.MinInt64, b, nil, impl.PmNone}, {"far off", b, math.MaxInt64, b, nil, impl.PmNone},
		{"of no permits", impl.Book{}, 1, impl.Book{}, nil, impl.PmNone},
		{"a wrong book", book(permit(3, 1)), 3, impl.Book{}, nil, impl.PmBook}, {"a wrong book, not there", book(permit(3, 1)), 4, impl.Book{}, nil, impl.PmBook},
	} {
		left, free, code := givesBack(t, n, c.b, c.id)
		if code != c.code || !sameBook(left, c.left) || !slices.Equal(free, c.free) {
			t.Error(c.name, left, free, code)
		}
	}
}

func TestP22TagsTold(t *testing.T) {
	n := lane(6)
	for _, c := range []struct {
		b    impl.Book
		tags []int64
	}{
		{impl.Book{}, []int64{0, 0, 0, 0, 0}}, {book(permit(7, 4, 1, 3)), []int64{0, 1, 0, 1, 0}},
		{book(permit(3, 1, 0, 1, 4), permit(5, 2, 1), permit(8, 3, 1, 2, 3)), []int64{1, 3, 1, 1, 1}},
		{book(permit(3, 1, 0, 1), permit(5, 2, 1)), []int64{1, 2, 0, 0, 0}},
		{book(permit(3, 1, 1)), nil}, {book(permit(3, 1, 0, 5)), nil},
	} {
		booked(t, n, c.b)
		if tags := impl.Tags(n, c.b); !slices.Equal(tags, c.tags) {
			t.Error(c.b, tags, c.tags)
		}
	}
	if tags := impl.Tags(netOf(2, nil), book(permit(1, 1))); len(tags) != 0 {
		t.Error("without ducts", tags)
	}
}

func TestP22MayOpenTold(t *testing.T) {
	n, b := lane(6), book(permit(3, 1, 0, 1), permit(5, 2, 1))
	for _, c := range []struct {
		valve int64
		may   bool
	}{{-1, false}, {0, false}, {1, false}, {2, true}, {3, true}, {4, true}, {5, false}, {6, false}, {math.MinInt64, false}, {math.MaxInt64, false}} {
		if may := impl.MayOpen(n, b, c.valve); may != c.may {
			t.Error(c.valve, may)
		}
		if may := impl.MayOpen(n, impl.Book{}, c.valve); may != (c.valve >= 0 && c.valve <= 4) {
			t.Error("no permits", c.valve, may)
		}
		if impl.MayOpen(n, book(permit(3, 1)), c.valve) || impl.MayOpen(netOf(2, nil), impl.Book{}, c.valve) {
			t.Error("a wrong book, or no valves", c.valve)
		}
	}
}

// TestP22Days grants and gives back, and counts the tags besides.
func TestP22Days(t *testing.T) {
	granted := int64(0)
	for seed := range int64(60) {
		places := 4 + seed%9
		n := someNet(seed, places, int(3+seed%12), 1)
		tags, b := make([]int64, len(n.Ducts)), impl.Book{}
		picks := someNumbers(seed+31, 4*60, 0, 1000000)
		for turn := range 60 {
			p := picks[4*turn : 4*turn+4]
			if p[0]%3 == 0 {
				b = dayGivesBack(t, n, b, 1+p[1]%30, tags)
				continue
			}
			asked := permit(p[1]%31, p[2]%places, setOf(int(p[3]), len(n.Ducts))...)
			if p[0]%2 == 0 {
				asked.Valves, _ = impl.Fewest(n, asked.Place)
			}
			next, code := grants(t, n, b, asked)
			granted += flag(code == 0)
			for _, valve := range asked.Valves {
				tags[valve] += flag(code == 0)
			}
			b = next
			dayHolds(t, n, b, tags)
		}
	}
	if granted < 300 {
		t.Error("too few were granted", granted)
	}
}

func dayGivesBack(t *testing.T, n impl.Net, b impl.Book, id int64, tags []int64) impl.Book {
	t.Helper()
	gone := slices.IndexFunc(b.Open, func(p impl.Permit) bool { return p.Id == id })
	next, free, code := givesBack(t, n, b, id)
	if (code == impl.PmNone) != (gone < 0) {
		t.Error(n, b, id, code)
	}
	if gone < 0 {
		return next
	}
	for _, valve := range b.Open[gone].Valves {
		tags[valve]--
		if slices.Contains(free, valve) != (tags[valve] == 0) {
			t.Error("a tag", n, b, id, free, tags)
		}
	}
	dayHolds(t, n, next, tags)
	return next
}

// dayHolds: every open permit is safe while what is tagged is shut, and all else open.
func dayHolds(t *testing.T, n impl.Net, b impl.Book, tags []int64) {
	t.Helper()
	if !booked(t, n, b) || !slices.Equal(impl.Tags(n, b), tags) {
		t.Error(n, b, tags)
	}
	shut := []int64{}
	for valve := range int64(len(n.Ducts)) {
		if !impl.MayOpen(n, b, valve) {
			shut = append(shut, valve)
		}
	}
	for _, p := range b.Open {
		if !impl.CutOff(n, shut, p.Place) || !impl.CutOff(n, p.Valves, p.Place) {
			t.Error("not cut off", n, b, p)
		}
	}
}

// TestP22AnswersAreNew writes into what was answered; what was given stays, and
// what lies behind it, too.
func TestP22AnswersAreNew(t *testing.T) {
	n := lane(6)
	ducts, from := append(n.Ducts, impl.Duct{A: 77, B: 77}), []int64{0, 77}
	n.Ducts, n.Sources = ducts[:5], from[:1]
	valves, asked := []int64{0, 1, 77}, []int64{1, 2, 77}
	room := []impl.Permit{permit(3, 1, valves[:2]...), permit(5, 2, 1), permit(77, 77, 77)}
	b := impl.Book{Open: room[:2]}
	spoil := func(c impl.Book) {
		for i := range c.Open {
			for k := range c.Open[i].Valves {
				c.Open[i].Valves[k] = 55
			}
			_ = append(c.Open[i].Valves, 56, 57, 58)
			c.Open[i].Id = 59
		}
		_ = append(c.Open, permit(60, 60, 60))
	}
	for _, p := range []impl.Permit{permit(4, 3, asked[:2]...), permit(9, 3, asked[:2]...), permit(1, 3, asked[:2]...), permit(3, 3, asked[:2]...), permit(4, 3, asked[1:]...)} {
		next, _ := impl.Grant(n, b, p)
		spoil(next)
	}
	for _, id := range []int64{3, 5, 4} {
		next, free, _ := impl.GiveBack(n, b, id)
		spoil(next)
		for i := range free {
			free[i] = 54
		}
		_ = append(free, 53, 52)
	}
	impl.Tags(n, b)[0] = 51
	list, _ := impl.Fewest(n, 1)
	list[0] = 50
	if !sameBook(impl.Book{Open: room}, book(permit(3, 1, 0, 1), permit(5, 2, 1), permit(77, 77, 77))) || !slices.Equal(valves, []int64{0, 1, 77}) || !slices.Equal(asked, []int64{1, 2, 77}) {
		t.Error("a book written into", room, valves, asked)
	}
	if !slices.Equal(from, []int64{0, 77}) || ducts[5] != (impl.Duct{A: 77, B: 77}) || !slices.Equal(ducts[:5], lane(6).Ducts) {
		t.Error("a net written into", ducts, from)
	}
	if !slices.Equal(impl.Tags(n, b), []int64{1, 2, 0, 0, 0}) {
		t.Error("kept from a call to another one")
	}
	if list, ok := impl.Fewest(n, 1); !ok || !slices.Equal(list, []int64{0}) {
		t.Error("kept from a call to another one", list, ok)
	}
}

// TestP22ListsApart: of one answer, no list shares memory with another one.
func TestP22ListsApart(t *testing.T) {
	n, valves := lane(6), []int64{0, 1}
	b := book(permit(3, 1, valves...), permit(5, 2, valves...))
	next, code := impl.Grant(n, b, permit(4, 3, 0, 2))
	if code != 0 {
		t.Fatal(code)
	}
	next.Open[0].Valves[0] = 55
	next.Open[0].Valves = append(next.Open[0].Valves, 56)
	if !sameBook(next, book(permit(3, 1, 55, 1, 56), permit(4, 3, 0, 2), permit(5, 2, 0, 1))) {
		t.Error(next)
	}
	left, free, code := impl.GiveBack(n, book(permit(3, 1, 0, 1), permit(4, 4, 3), permit(5, 3, 2)), 4)
	if code != 0 {
		t.Fatal(code)
	}
	free[0] = 55
	_ = append(free, 56, 57)
	left.Open[0].Valves[1] = 54
	if !sameBook(left, book(permit(3, 1, 0, 54), permit(5, 3, 2))) || free[0] != 55 {
		t.Error(left, free)
	}
}
