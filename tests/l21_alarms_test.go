package tests

import (
	"math"
	"slices"
	"testing"

	"loop.example/g00062/impl"
)

const lastNow = 1000000000

func TestP21Constants(t *testing.T) {
	if impl.MaxAlarms != 60 || impl.MaxNow != lastNow || impl.MaxRows != 300 {
		t.Error("a limit")
	}
	if impl.AlQuiet != 0 || impl.AlNew != 1 || impl.AlSeen != 2 || impl.AlGone != 3 {
		t.Error("a state")
	}
}

// alarm is one that is heard in all modes and not shelved.
func alarm(group int64, state int64, first bool) impl.Alarm {
	return impl.Alarm{Group: group, State: state, First: first}
}

func quiets(n int) []impl.Alarm {
	return slices.Repeat([]impl.Alarm{alarm(1, 0, false)}, n)
}

func board(now int64, alarms ...impl.Alarm) impl.Board {
	return impl.Board{Now: now, Alarms: alarms}
}

func boardCopy(b impl.Board) impl.Board {
	return impl.Board{Now: b.Now, Alarms: slices.Clone(b.Alarms)}
}

func sameBoard(a impl.Board, b impl.Board) bool {
	return a.Now == b.Now && slices.Equal(a.Alarms, b.Alarms)
}

func emptyBoard(b impl.Board) bool {
	return sameBoard(b, impl.Board{})
}

func scanCopy(s impl.Scan) impl.Scan {
	return impl.Scan{Mode: s.Mode, There: slices.Clone(s.There), Seen: slices.Clone(s.Seen), Shelves: slices.Clone(s.Shelves)}
}

func sameScan(a impl.Scan, b impl.Scan) bool {
	return a.Mode == b.Mode && slices.Equal(a.There, b.There) && slices.Equal(a.Seen, b.Seen) && slices.Equal(a.Shelves, b.Shelves)
}

func scansCopy(list []impl.Scan) []impl.Scan {
	out := []impl.Scan{}
	for _, s := range list {
		out = append(out, scanCopy(s))
	}
	return out
}

func wantBoardOk(b impl.Board) bool {
	if b.Now < 0 || b.Now > lastNow || len(b.Alarms) > 60 {
		return false
	}
	for i, a := range b.Alarms {
		if a.Group < 1 || a.Group > 9 || a.Off < 0 || a.Off > 255 || a.State < 0 || a.State > 3 || a.To < 0 || a.To > lastNow+1000 {
			return false
		}
		if a.State == 0 && a.First {
			return false
		}
		for _, other := range b.Alarms[:i] {
			if a.First && other.First && a.Group == other.Group {
				return false
			}
		}
	}
	return true
}

func wantScanOk(s impl.Scan, n int) bool {
	if s.Mode < 0 || s.Mode > 7 || len(s.There) != n || len(s.Seen) > 60 || len(s.Shelves) > 60 {
		return false
	}
	for _, place := range s.Seen {
		if place < 0 || place >= int64(n) {
			return false
		}
	}
	for _, shelf := range s.Shelves {
		if shelf.Alarm < 0 || shelf.Alarm >= int64(n) || shelf.Ticks < 1 || shelf.Ticks > 1000 {
			return false
		}
	}
	return true
}

// wantShelved is what the last of Shelves that names a place makes of its To.
func wantShelved(a impl.Alarm, place int64, s impl.Scan, now int64) impl.Alarm {
	for i := len(s.Shelves) - 1; i >= 0; i-- {
		if s.Shelves[i].Alarm == place {
			a.To = now + s.Shelves[i].Ticks
			return a
		}
	}
	return a
}

// wantLooked has a second look do nothing.
func wantLooked(a impl.Alarm, place int64, s impl.Scan) impl.Alarm {
	if !slices.Contains(s.Seen, place) {
		return a
	}
	switch a.State {
	case 1:
		a.State = 2
	case 3:
		a.State, a.First = 0, false
	}
	return a
}

func wantHeard(a impl.Alarm, place int, s impl.Scan, now int64) bool {
	return s.There[place] && !flagsOf(int(a.Off), 8)[s.Mode] && a.To < now
}

func wantBoardStep(b impl.Board, s impl.Scan) (impl.Board, []int64, bool) {
	if !wantBoardOk(b) || !wantScanOk(s, len(b.Alarms)) || b.Now == lastNow {
		return impl.Board{}, nil, false
	}
	out := impl.Board{Now: b.Now + 1}
	for i, a := range b.Alarms {
		out.Alarms = append(out.Alarms, wantLooked(wantShelved(a, int64(i), s, out.Now), int64(i), s))
	}
	told := []int64{}
	for i, a := range out.Alarms {
		heard := wantHeard(a, i, s, out.Now)
		switch {
		case a.State == 0 && heard:
			a.First = true
			for j, other := range out.Alarms {
				if j != i && other.Group == a.Group && other.State != 0 {
					a.First = false
				}
			}
			a.State = 1
			told = append(told, int64(i))
		case a.State == 3 && heard:
			a.State = 1
			told = append(told, int64(i))
		case a.State == 1 && !heard:
			a.State = 3
		case a.State == 2 && !heard:
			a.State, a.First = 0, false
		}
		out.Alarms[i] = a
	}
	return out, told, true
}

func wantBoardRun(b impl.Board, list []impl.Scan) ([][]int64, impl.Board, bool) {
	if !wantBoardOk(b) || len(list) > 300 {
		return nil, impl.Board{}, false
	}
	rows := [][]int64{}
	for _, s := range list {
		next, told, ok := wantBoardStep(b, s)
		if !ok {
			return nil, impl.Board{}, false
		}
		b, rows = next, append(rows, told)
	}
	return rows, b, true
}

func wantFirstOf(b impl.Board, group int64) int64 {
	if wantBoardOk(b) {
		return int64(slices.IndexFunc(b.Alarms, func(a impl.Alarm) bool { return a.Group == group && a.First }))
	}
	return -1
}

func wantStanding(b impl.Board) []int64 {
	fresh, others := []int64{}, []int64{}
	for i, a := range b.Alarms {
		switch a.State {
		case 1:
			fresh = append(fresh, int64(i))
		case 2:
			others = append(others, int64(i))
		}
	}
	if !wantBoardOk(b) {
		return nil
	}
	return append(fresh, others...)
}

// viewed holds all that is said of a board without a tick against what is wanted.
func viewed(t *testing.T, b impl.Board) bool {
	t.Helper()
	kept, right := boardCopy(b), wantBoardOk(b)
	if ok := impl.BoardOk(b); ok != right {
		t.Error("right", b, ok, right)
	}
	for group := int64(-1); group <= 11; group++ {
		if place := impl.FirstOf(b, group); place != wantFirstOf(b, group) {
			t.Error("first", b, group, place, wantFirstOf(b, group))
		}
	}
	if places := impl.Standing(b); !slices.Equal(places, wantStanding(b)) {
		t.Error("standing", b, places, wantStanding(b))
	}
	if !sameBoard(b, kept) {
		t.Error("written into", b)
	}
	return right
}

func boarded(t *testing.T, b impl.Board, s impl.Scan) (impl.Board, []int64, bool) {
	t.Helper()
	kept, scanned := boardCopy(b), scanCopy(s)
	next, told, ok := impl.BoardStep(b, s)
	want, tells, may := wantBoardStep(b, s)
	if ok != may || !sameBoard(next, want) || !slices.Equal(told, tells) {
		t.Error(b, s, next, told, ok, want, tells, may)
	}
	if ok && !impl.BoardOk(next) {
		t.Error("not right any more", b, s, next)
	}
	if !sameBoard(b, kept) || !sameScan(s, scanned) {
		t.Error("written into", b, s)
	}
	return next, told, ok
}

func boardRuns(t *testing.T, b impl.Board, list []impl.Scan) ([][]int64, impl.Board, bool) {
	t.Helper()
	kept, scans := boardCopy(b), scansCopy(list)
	rows, end, ok := impl.BoardRun(b, list)
	want, then, may := wantBoardRun(b, list)
	if ok != may || !sameTable(rows, want) || !sameBoard(end, then) {
		t.Error(b, list, rows, end, ok, want, then, may)
	}
	if !sameBoard(b, kept) || !slices.EqualFunc(list, scans, sameScan) {
		t.Error("written into", b, list)
	}
	return rows, end, ok
}

func TestP21BoardSizes(t *testing.T) {
	for _, n := range []int{0, 1, 59, 60, 61, 100} {
		b, right := board(0, quiets(n)...), n <= 60
		if ok := viewed(t, b); ok != right {
			t.Error(n, ok)
		}
		if next, told, ok := boarded(t, b, impl.Scan{There: make([]bool, n)}); ok != right || len(told) != 0 || !ok && !emptyBoard(next) {
			t.Error(n, next, told, ok)
		}
		if _, _, ok := boardRuns(t, b, nil); ok != right {
			t.Error(n, ok)
		}
	}
}

// TestP21BoardFields changes one field of the alarm in the midst of a right board.
func TestP21BoardFields(t *testing.T) {
	for _, c := range []struct {
		name   string
		change func(*impl.Board, int64)
		right  []int64
		wrong  []int64
	}{
		{"Now", func(b *impl.Board, n int64) { b.Now = n }, []int64{0, 1, lastNow - 1, lastNow}, []int64{-1, lastNow + 1, math.MinInt64, math.MaxInt64}},
		{"Group", func(b *impl.Board, n int64) { b.Alarms[1].Group = n }, []int64{1, 2, 8, 9}, []int64{0, -1, 10, math.MinInt64, math.MaxInt64}},
		{"Off", func(b *impl.Board, n int64) { b.Alarms[1].Off = n }, []int64{0, 1, 254, 255}, []int64{-1, 256, math.MinInt64, math.MaxInt64}},
		{"State", func(b *impl.Board, n int64) { b.Alarms[1].State = n }, []int64{0, 1, 2, 3}, []int64{-1, 4, math.MinInt64, math.MaxInt64}},
		{"To", func(b *impl.Board, n int64) { b.Alarms[1].To = n }, []int64{0, 1, lastNow, lastNow + 999, lastNow + 1000}, []int64{-1, lastNow + 1001, math.MinInt64, math.MaxInt64}},
	} {
		for _, n := range append(slices.Clone(c.right), c.wrong...) {
			b := board(5, alarm(1, 1, true), alarm(2, 0, false), alarm(3, 2, false))
			c.change(&b, n)
			right := slices.Contains(c.right, n)
			if ok := viewed(t, b); ok != right {
				t.Error(c.name, n, ok)
			}
			steps := right && b.Now < lastNow
			if next, told, ok := boarded(t, b, impl.Scan{There: []bool{true, true, false}}); ok != steps || !ok && (!emptyBoard(next) || len(told) != 0) {
				t.Error(c.name, n, next, told, ok)
			}
			if _, end, ok := boardRuns(t, b, nil); ok != right || !ok && !emptyBoard(end) {
				t.Error(c.name, n, end, ok)
			}
			if !right && (impl.FirstOf(b, 1) != -1 || len(impl.Standing(b)) != 0) {
				t.Error(c.name, n)
			}
		}
	}
}

func TestP21BoardFirsts(t *testing.T) {
	for _, c := range []struct {
		name  string
		b     impl.Board
		right bool
	}{
		{"a quiet one", board(0, alarm(1, 0, true)), false},
		{"a quiet one behind others", board(0, alarm(1, 1, false), alarm(2, 1, true), alarm(3, 0, true)), false},
		{"a new one", board(0, alarm(1, 1, true)), true},
		{"a seen one", board(0, alarm(1, 2, true)), true},
		{"a gone one", board(0, alarm(1, 3, true)), true},
		{"two of one group", board(0, alarm(1, 1, true), alarm(1, 1, true)), false},
		{"two of one group, one between", board(0, alarm(9, 3, true), alarm(1, 2, true), alarm(9, 2, true)), false},
		{"two of two groups", board(0, alarm(1, 1, true), alarm(2, 1, true)), true},
		{"none, though two are there", board(0, alarm(1, 1, false), alarm(1, 2, false)), true},
		{"not the one that stands first", board(0, alarm(1, 1, false), alarm(1, 2, true)), true},
		{"one of each group", board(0, alarm(1, 1, true), alarm(2, 2, true), alarm(3, 3, true), alarm(4, 1, true), alarm(5, 1, true), alarm(6, 1, true), alarm(7, 1, true), alarm(8, 1, true), alarm(9, 1, true)), true},
	} {
		if ok := viewed(t, c.b); ok != c.right {
			t.Error(c.name, ok)
		}
		if next, _, ok := boarded(t, c.b, impl.Scan{There: make([]bool, len(c.b.Alarms))}); ok != c.right || !ok && !emptyBoard(next) {
			t.Error(c.name, next, ok)
		}
	}
}

func TestP21FirstOfTold(t *testing.T) {
	b := board(7, alarm(9, 1, false), alarm(1, 2, false), alarm(9, 3, true), alarm(4, 1, false), alarm(1, 1, true))
	for _, c := range []struct {
		group int64
		place int64
	}{{0, -1}, {1, 4}, {2, -1}, {4, -1}, {8, -1}, {9, 2}, {10, -1}, {-1, -1}, {math.MinInt64, -1}, {math.MaxInt64, -1}} {
		if place := impl.FirstOf(b, c.group); place != c.place {
			t.Error(c.group, place, c.place)
		}
	}
	b.Now = -1
	if place := impl.FirstOf(b, 1); place != -1 {
		t.Error("not right", place)
	}
	if place := impl.FirstOf(impl.Board{}, 1); place != -1 {
		t.Error("none", place)
	}
}

func TestP21StandingTold(t *testing.T) {
	for _, c := range []struct {
		states []int64
		places []int64
	}{
		{nil, nil}, {[]int64{0, 3}, nil}, {[]int64{1}, []int64{0}}, {[]int64{2}, []int64{0}}, {[]int64{0, 1, 1}, []int64{1, 2}}, {[]int64{2, 0, 2}, []int64{0, 2}},
		{[]int64{2, 1}, []int64{1, 0}}, {[]int64{1, 2}, []int64{0, 1}}, {[]int64{2, 3, 1, 0, 2, 1}, []int64{2, 5, 0, 4}}, {[]int64{2, 1, 4}, nil}, {[]int64{-1, 1}, nil},
	} {
		b := board(3)
		for _, state := range c.states {
			b.Alarms = append(b.Alarms, alarm(5, state, false))
		}
		viewed(t, b)
		if places := impl.Standing(b); !slices.Equal(places, c.places) {
			t.Error(c.states, places, c.places)
		}
	}
}

// TestP21ScanEdges: three alarms, of which the last one is not there.
func TestP21ScanEdges(t *testing.T) {
	far := []int64{math.MinInt64, math.MaxInt64, 1 << 32}
	there := []bool{true, true, false}
	try := func(name string, s impl.Scan, right bool) {
		t.Helper()
		b := board(4, alarm(1, 0, false), alarm(1, 1, true), alarm(2, 3, false))
		next, told, ok := boarded(t, b, s)
		if ok != right || !ok && (!emptyBoard(next) || len(told) != 0) {
			t.Error(name, s, next, told, ok)
		}
		if rows, end, ok := boardRuns(t, b, []impl.Scan{{There: there}, s}); ok != right || !ok && (len(rows) != 0 || !emptyBoard(end)) {
			t.Error(name, s, rows, end, ok)
		}
	}
	for _, mode := range append([]int64{-1, 0, 1, 6, 7, 8}, far...) {
		try("Mode", impl.Scan{Mode: mode, There: there}, mode >= 0 && mode <= 7)
	}
	for n := range 6 {
		try("There", impl.Scan{There: make([]bool, n)}, n == 3)
	}
	for _, place := range append([]int64{-1, 0, 1, 2, 3, 4}, far...) {
		right := place >= 0 && place <= 2
		try("Seen", impl.Scan{There: there, Seen: []int64{place}}, right)
		try("Seen, behind another one", impl.Scan{There: there, Seen: []int64{2, place}}, right)
		try("Seen twice", impl.Scan{There: there, Seen: []int64{place, place}}, right)
		try("Shelved", impl.Scan{There: there, Shelves: []impl.Shelf{{Alarm: place, Ticks: 1}}}, right)
		try("Shelved twice", impl.Scan{There: there, Shelves: []impl.Shelf{{Alarm: place, Ticks: 9}, {Alarm: place, Ticks: 2}}}, right)
	}
	for _, ticks := range append([]int64{-1, 0, 1, 2, 999, 1000, 1001}, far...) {
		right := ticks >= 1 && ticks <= 1000
		try("Ticks", impl.Scan{There: there, Shelves: []impl.Shelf{{Alarm: 1, Ticks: ticks}}}, right)
		try("Ticks, behind others", impl.Scan{There: there, Shelves: []impl.Shelf{{Alarm: 1, Ticks: 5}, {Alarm: 0, Ticks: 7}, {Alarm: 1, Ticks: ticks}}}, right)
	}
	for _, n := range []int{0, 1, 59, 60, 61, 200} {
		try("so many seen", impl.Scan{There: there, Seen: slices.Repeat([]int64{1}, n)}, n <= 60)
		try("so many shelved", impl.Scan{There: there, Shelves: slices.Repeat([]impl.Shelf{{Alarm: 2, Ticks: 3}}, n)}, n <= 60)
	}
}

func TestP21StepWithoutAlarms(t *testing.T) {
	if next, told, ok := boarded(t, board(0), impl.Scan{}); !ok || next.Now != 1 || len(told) != 0 {
		t.Error(next, told, ok)
	}
	for _, s := range []impl.Scan{{Seen: []int64{0}}, {Shelves: []impl.Shelf{{Alarm: 0, Ticks: 1}}}, {There: []bool{false}}} {
		if _, _, ok := boarded(t, board(0), s); ok {
			t.Error(s)
		}
	}
}

func TestP21LastTicks(t *testing.T) {
	s := impl.Scan{There: []bool{true}, Shelves: []impl.Shelf{{Alarm: 0, Ticks: 1000}}}
	next, told, ok := boarded(t, board(lastNow-1, alarm(1, 1, true)), s)
	if !ok || next.Now != lastNow || next.Alarms[0].To != lastNow+1000 || next.Alarms[0].State != 3 || len(told) != 0 || !impl.BoardOk(next) {
		t.Error(next, told, ok)
	}
	for _, now := range []int64{lastNow, lastNow + 1, math.MaxInt64, -1, math.MinInt64} {
		if next, told, ok := boarded(t, board(now, alarm(1, 1, true)), s); ok || !emptyBoard(next) || len(told) != 0 {
			t.Error(now, next, told, ok)
		}
	}
}

// TestP21StatesTold: one alarm, each of its states, seen or not, heard or not.
func TestP21StatesTold(t *testing.T) {
	for _, c := range []struct {
		name  string
		state int64
		first bool
		seen  bool
		heard bool
		then  int64
		still bool
		tells bool
	}{
		{"quiet", 0, false, false, false, 0, false, false},
		{"quiet, seen", 0, false, true, false, 0, false, false},
		{"comes", 0, false, false, true, 1, true, true},
		{"comes, seen ahead", 0, false, true, true, 1, true, true},
		{"new", 1, true, false, true, 1, true, false},
		{"new, not the first", 1, false, false, true, 1, false, false},
		{"new, seen", 1, true, true, true, 2, true, false},
		{"new, seen, not the first", 1, false, true, true, 2, false, false},
		{"new and goes", 1, true, false, false, 3, true, false},
		{"new and goes, not the first", 1, false, false, false, 3, false, false},
		{"new, seen and goes", 1, true, true, false, 0, false, false},
		{"seen", 2, true, false, true, 2, true, false},
		{"seen once more", 2, true, true, true, 2, true, false},
		{"seen, not the first", 2, false, false, true, 2, false, false},
		{"seen and goes", 2, true, false, false, 0, false, false},
		{"seen once more and goes", 2, true, true, false, 0, false, false},
		{"gone", 3, true, false, false, 3, true, false},
		{"gone, seen", 3, true, true, false, 0, false, false},
		{"gone and comes", 3, true, false, true, 1, true, true},
		{"gone and comes, not the first", 3, false, false, true, 1, false, true},
		{"gone, seen and comes", 3, true, true, true, 1, true, true},
		{"gone, seen and comes, not the first", 3, false, true, true, 1, true, true},
	} {
		s, want := impl.Scan{There: []bool{c.heard}}, []int64{}
		if c.seen {
			s.Seen = []int64{0}
		}
		if c.tells {
			want = []int64{0}
		}
		next, told, ok := boarded(t, board(8, alarm(6, c.state, c.first)), s)
		if !ok || !slices.Equal(told, want) || !sameBoard(next, board(9, alarm(6, c.then, c.still))) {
			t.Error(c.name, next, told, ok)
		}
	}
}

// TestP21ShelvedUpTo: what is shelved up to a time is heard behind it.
func TestP21ShelvedUpTo(t *testing.T) {
	for _, c := range []struct {
		to    int64
		heard bool
	}{{0, true}, {18, true}, {19, true}, {20, false}, {21, false}, {lastNow + 1000, false}} {
		a := impl.Alarm{Group: 1, To: c.to}
		next, told, ok := boarded(t, board(19, a), impl.Scan{There: []bool{true}})
		if !ok || next.Now != 20 || (len(told) == 1) != c.heard || (next.Alarms[0].State == 1) != c.heard || next.Alarms[0].To != c.to {
			t.Error(c.to, next, told, ok)
		}
	}
	scans := slices.Repeat([]impl.Scan{{There: []bool{true}}}, 7)
	scans[1].Shelves = []impl.Shelf{{Alarm: 0, Ticks: 9}, {Alarm: 0, Ticks: 3}}
	rows, end, ok := boardRuns(t, board(0, quiets(1)...), scans)
	if !ok || !sameTable(rows, [][]int64{{0}, {}, {}, {}, {}, {0}, {}}) || end.Alarms[0] != (impl.Alarm{Group: 1, State: 1, First: true, To: 5}) {
		t.Error(rows, end, ok)
	}
}

// TestP21SeenAndShelved: in one tick, what stands on the board as seen goes from it.
func TestP21SeenAndShelved(t *testing.T) {
	s := impl.Scan{There: []bool{true, true, true, true}, Seen: []int64{3, 1, 0, 2}, Shelves: []impl.Shelf{{Alarm: 2, Ticks: 1}, {Alarm: 0, Ticks: 1}, {Alarm: 1, Ticks: 1}, {Alarm: 3, Ticks: 1}}}
	next, told, ok := boarded(t, board(10, alarm(1, 0, false), alarm(1, 1, true), alarm(2, 2, true), alarm(3, 3, true)), s)
	if !ok || len(told) != 0 || next.Now != 11 {
		t.Error(next, told, ok)
	}
	for _, a := range next.Alarms {
		if a.State != 0 || a.First || a.To != 12 {
			t.Error(next)
		}
	}
}

func TestP21Modes(t *testing.T) {
	for mode := range int64(8) {
		for off := range int64(256) {
			silent := off/(1<<mode)%2 == 1
			b := board(0, impl.Alarm{Group: 1, Off: off}, impl.Alarm{Group: 2, Off: off, State: 2, First: true})
			next, told, ok := boarded(t, b, impl.Scan{Mode: mode, There: []bool{true, true}})
			if !ok || (len(told) == 0) != silent || (next.Alarms[0].State == 0) != silent || (next.Alarms[1].State == 0) != silent {
				t.Error(mode, off, next, told, ok)
			}
		}
	}
}

// TestP21GroupsTold: who is the first of a group.
func TestP21GroupsTold(t *testing.T) {
	for _, c := range []struct {
		name   string
		alarms []impl.Alarm
		s      impl.Scan
		told   []int64
		first  int64
		states []int64
	}{
		{"two come in one tick", quiets(3), impl.Scan{There: []bool{false, true, true}}, []int64{1, 2}, 1, []int64{0, 1, 1}},
		{"another one is new", []impl.Alarm{alarm(1, 0, false), alarm(1, 1, true)}, impl.Scan{There: []bool{true, true}}, []int64{0}, 1, []int64{1, 1}},
		{"another one is seen", []impl.Alarm{alarm(1, 0, false), alarm(1, 2, true)}, impl.Scan{There: []bool{true, true}}, []int64{0}, 1, []int64{1, 2}},
		{"another one is gone", []impl.Alarm{alarm(1, 0, false), alarm(1, 3, true)}, impl.Scan{There: []bool{true, false}}, []int64{0}, 1, []int64{1, 3}},
		{"another one is gone and not the first", []impl.Alarm{alarm(1, 0, false), alarm(1, 3, false)}, impl.Scan{There: []bool{true, false}}, []int64{0}, -1, []int64{1, 3}},
		{"another one that is gone comes, too", []impl.Alarm{alarm(1, 0, false), alarm(1, 3, true)}, impl.Scan{There: []bool{true, true}}, []int64{0, 1}, 1, []int64{1, 1}},
		{"another one is gone and seen now", []impl.Alarm{alarm(1, 0, false), alarm(1, 3, true)}, impl.Scan{There: []bool{true, false}, Seen: []int64{1}}, []int64{0}, 0, []int64{1, 0}},
		{"another one ahead goes by itself", []impl.Alarm{alarm(1, 2, true), alarm(1, 0, false)}, impl.Scan{There: []bool{false, true}}, []int64{1}, 1, []int64{0, 1}},
		{"another one behind goes by itself, later", []impl.Alarm{alarm(1, 0, false), alarm(1, 2, true)}, impl.Scan{There: []bool{true, false}}, []int64{0}, -1, []int64{1, 0}},
		{"another one ahead goes, nobody has seen it", []impl.Alarm{alarm(1, 1, true), alarm(1, 0, false)}, impl.Scan{There: []bool{false, true}}, []int64{1}, 0, []int64{3, 1}},
		{"another one ahead goes, seen now", []impl.Alarm{alarm(1, 1, true), alarm(1, 0, false)}, impl.Scan{There: []bool{false, true}, Seen: []int64{0}}, []int64{1}, 1, []int64{0, 1}},
		{"one of another group is there", []impl.Alarm{alarm(2, 1, true), alarm(1, 0, false)}, impl.Scan{There: []bool{true, true}}, []int64{1}, 1, []int64{1, 1}},
		{"one that was no first stays none", []impl.Alarm{alarm(1, 3, false), alarm(1, 0, false)}, impl.Scan{There: []bool{true, false}}, []int64{0}, -1, []int64{1, 0}},
		{"gone, seen and come again among others", []impl.Alarm{alarm(1, 3, true), alarm(1, 2, false)}, impl.Scan{There: []bool{true, true}, Seen: []int64{0}}, []int64{0}, -1, []int64{1, 2}},
		{"shelved others are no others", []impl.Alarm{alarm(1, 2, true), alarm(1, 0, false)}, impl.Scan{There: []bool{true, true}, Shelves: []impl.Shelf{{Alarm: 0, Ticks: 1}}}, []int64{1}, 1, []int64{0, 1}},
	} {
		next, told, ok := boarded(t, board(30, c.alarms...), c.s)
		if !ok || !slices.Equal(told, c.told) || impl.FirstOf(next, 1) != c.first {
			t.Error(c.name, next, told, ok)
		}
		for i, a := range next.Alarms {
			if a.State != c.states[i] {
				t.Error(c.name, i, next)
			}
		}
	}
}

// TestP21EveryStep goes through all right boards of up to two alarms in one or two
// groups, with all that may come in a tick.
func TestP21EveryStep(t *testing.T) {
	kinds := []impl.Alarm{alarm(1, 0, false)}
	for state := int64(1); state <= 3; state++ {
		kinds = append(kinds, alarm(1, state, false), alarm(1, state, true))
	}
	for _, a := range kinds {
		everyScan(t, board(5, a))
		for _, b := range kinds {
			for group := int64(1); group <= 2; group++ {
				b.Group = group
				everyScan(t, board(5, a, b))
			}
		}
	}
}

func everyScan(t *testing.T, b impl.Board) {
	t.Helper()
	n := len(b.Alarms)
	viewed(t, b)
	for bits := range 1 << (3 * n) {
		f := flagsOf(bits, 3*n)
		s := impl.Scan{There: f[:n:n]}
		for place := range n {
			if f[n+place] {
				s.Seen = append(s.Seen, int64(place))
			}
			if f[2*n+place] {
				s.Shelves = append(s.Shelves, impl.Shelf{Alarm: int64(place), Ticks: 1})
			}
		}
		boarded(t, b, s)
		slices.Reverse(s.Seen)
		slices.Reverse(s.Shelves)
		boarded(t, b, s)
	}
}

func someBoard(seed int64, n int, groups int64) impl.Board {
	b, picks := board(seed%50), someNumbers(seed, 2*n, 0, 1000000)
	for i := range n {
		a := impl.Alarm{Group: 1 + picks[2*i]%groups, Off: picks[2*i+1] % 256}
		if picks[2*i]/10%3 > 0 {
			a.Off = 0
		}
		b.Alarms = append(b.Alarms, a)
	}
	return b
}

func someScans(seed int64, many int, n int) []impl.Scan {
	list := []impl.Scan{}
	for i := range many {
		picks := someNumbers(seed*1000+int64(i), 2*n+4, 0, 1000000)
		s := impl.Scan{Mode: picks[0] % 8, There: make([]bool, n)}
		for place := range n {
			s.There[place] = picks[4+place]%3 == 0
			if picks[4+n+place]%5 == 0 {
				s.Seen = append(s.Seen, int64(place))
			}
			if picks[4+n+place]%11 == 0 {
				s.Shelves = append(s.Shelves, impl.Shelf{Alarm: int64(place), Ticks: 1 + picks[4+place]%6})
			}
		}
		list = append(list, s)
	}
	return list
}

func TestP21SomeRuns(t *testing.T) {
	for seed := range int64(120) {
		n, many := int(seed*7%61), int(seed%40)
		b, list := someBoard(seed, n, 1+seed%9), someScans(seed, many, n)
		rows, end, ok := boardRuns(t, b, list)
		if !ok || len(rows) != many || end.Now != b.Now+int64(many) {
			t.Fatal(seed, rows, end, ok)
		}
		now := b
		for i, s := range list {
			next, told, ok := boarded(t, now, s)
			if !ok || !slices.Equal(told, rows[i]) || !viewed(t, next) {
				t.Fatal(seed, i, next, told, ok)
			}
			now = next
		}
		if !sameBoard(now, end) {
			t.Error(seed, now, end)
		}
		for _, cut := range []int{0, many / 3, many} {
			begun, middle, _ := impl.BoardRun(b, list[:cut])
			rest, last, ok := impl.BoardRun(middle, list[cut:])
			if !ok || !sameBoard(last, end) || !sameTable(append(begun, rest...), rows) {
				t.Error("in two pieces", seed, cut, last, end)
			}
		}
	}
}

// TestP21ToldOnce: from a quiet board on, an alarm is told just when it is heard
// and was not in the tick ahead.
func TestP21ToldOnce(t *testing.T) {
	for seed := range int64(80) {
		n := 1 + int(seed%20)
		b, was := someBoard(seed, n, 1+seed%4), make([]bool, n)
		for i, s := range someScans(seed+500, 60, n) {
			next, told, ok := impl.BoardStep(b, s)
			if !ok || !slices.IsSorted(told) {
				t.Fatal(seed, i, told, ok)
			}
			for place, a := range next.Alarms {
				hears := wantHeard(a, place, s, next.Now)
				if slices.Contains(told, int64(place)) != (hears && !was[place]) || (a.State == 1 || a.State == 2) != hears {
					t.Fatal(seed, i, place, next, told, hears, was)
				}
				was[place] = hears
			}
			b = next
		}
	}
}

// oneKind makes a scan in which alarms either come, or go, or are seen, so that the
// order within the tick does not matter.
func oneKind(kind int, b impl.Board, s impl.Scan) impl.Scan {
	out := impl.Scan{}
	for place, a := range b.Alarms {
		stands := a.State == 1 || a.State == 2
		switch kind {
		case 0:
			out.There = append(out.There, stands || s.There[place])
		case 1:
			out.There = append(out.There, stands && s.There[place])
		default:
			out.There = append(out.There, stands)
		}
	}
	if kind == 2 {
		out.Seen = s.Seen
	}
	return out
}

// TestP21FirstIsTheFirst: from a quiet board on, First has the one that woke its
// group, for as long as that one is awake, and no other one.
func TestP21FirstIsTheFirst(t *testing.T) {
	woken := 0
	for seed := range int64(80) {
		n, groups := 1+int(seed%12), 1+seed%3
		b, first := someBoard(seed, n, groups), slices.Repeat([]int64{-1}, 10)
		for i := range b.Alarms {
			b.Alarms[i].Off = 0
		}
		for i, s := range someScans(seed+900, 90, n) {
			next, told, ok := impl.BoardStep(b, oneKind(i%3, b, s))
			if !ok {
				t.Fatal(seed, i, s)
			}
			for group := int64(1); group <= groups; group++ {
				of := func(place int64) bool { return b.Alarms[place].Group == group }
				slept := !slices.ContainsFunc(b.Alarms, func(a impl.Alarm) bool { return a.Group == group && a.State != 0 })
				if at := slices.IndexFunc(told, of); slept && at >= 0 {
					first[group] = told[at]
					woken++
				}
				if first[group] >= 0 && next.Alarms[first[group]].State == 0 {
					first[group] = -1
				}
				if place := impl.FirstOf(next, group); place != first[group] {
					t.Fatal(seed, i, group, place, first, next)
				}
			}
			b = next
		}
	}
	if woken < 100 {
		t.Error("too few groups woke", woken)
	}
}

func TestP21RunTold(t *testing.T) {
	yes, no, wrong := impl.Scan{There: []bool{true}}, impl.Scan{There: []bool{false}}, impl.Scan{Mode: 8, There: []bool{true}}
	start := board(2, quiets(1)...)
	for _, c := range []struct {
		name string
		list []impl.Scan
		rows [][]int64
		end  impl.Board
		ok   bool
	}{
		{"none", nil, nil, start, true},
		{"one", []impl.Scan{yes}, [][]int64{{0}}, board(3, alarm(1, 1, true)), true},
		{"comes, goes and comes", []impl.Scan{no, yes, yes, no, no, yes}, [][]int64{{}, {0}, {}, {}, {}, {0}}, board(8, alarm(1, 1, true)), true},
		{"refused at first", []impl.Scan{wrong, yes}, nil, impl.Board{}, false},
		{"refused in the midst", []impl.Scan{yes, wrong, no}, nil, impl.Board{}, false},
		{"refused at last", []impl.Scan{yes, no, wrong}, nil, impl.Board{}, false},
		{"refused for its flags", []impl.Scan{yes, {}, no}, nil, impl.Board{}, false},
	} {
		if rows, end, ok := boardRuns(t, start, c.list); ok != c.ok || !sameTable(rows, c.rows) || !sameBoard(end, c.end) {
			t.Error(c.name, rows, end, ok)
		}
	}
	for _, n := range []int{299, 300, 301, 1000} {
		rows, end, ok := boardRuns(t, start, slices.Repeat([]impl.Scan{yes, no}, n)[:n])
		if ok != (n <= 300) || ok && (len(rows) != n || end.Now != int64(n)+2) || !ok && (len(rows) != 0 || !emptyBoard(end)) {
			t.Error(n, len(rows), end, ok)
		}
	}
	for _, left := range []int64{0, 1, 2, 3} {
		rows, end, ok := boardRuns(t, board(lastNow-left, quiets(1)...), []impl.Scan{yes, no})
		if ok != (left >= 2) || !ok && (len(rows) != 0 || !emptyBoard(end)) {
			t.Error("to the last tick", left, rows, end, ok)
		}
	}
	for _, list := range [][]impl.Scan{nil, {yes}} {
		if rows, end, ok := boardRuns(t, board(-1, quiets(1)...), list); ok || len(rows) != 0 || !emptyBoard(end) {
			t.Error("not right", rows, end, ok)
		}
	}
}

// TestP21AnswersAreNew writes into what was answered; what was given stays, and
// what lies behind it, too.
func TestP21AnswersAreNew(t *testing.T) {
	room := []impl.Alarm{alarm(1, 0, false), alarm(1, 1, true), alarm(7, 7, true)}
	seen, shelves := []int64{1, 77}, []impl.Shelf{{Alarm: 0, Ticks: 4}, {Alarm: 77, Ticks: 77}}
	flags := []bool{true, true, true}
	b := impl.Board{Now: 3, Alarms: room[:2]}
	s := impl.Scan{There: flags[:2], Seen: seen[:1], Shelves: shelves[:1]}
	next, _, _ := impl.BoardStep(b, s)
	next.Alarms[0], next.Alarms[1] = alarm(9, 9, true), alarm(9, 9, true)
	_ = append(next.Alarms, alarm(8, 8, true))
	for _, list := range [][]impl.Scan{nil, {s}, {s, s}} {
		_, end, _ := impl.BoardRun(b, list)
		end.Alarms[0], end.Alarms[1] = alarm(9, 9, true), alarm(9, 9, true)
		_ = append(end.Alarms, alarm(8, 8, true))
	}
	impl.Standing(b)[0] = 9
	if !slices.Equal(room, []impl.Alarm{alarm(1, 0, false), alarm(1, 1, true), alarm(7, 7, true)}) {
		t.Error("alarms written into", room)
	}
	if !slices.Equal(seen, []int64{1, 77}) || shelves[1] != (impl.Shelf{Alarm: 77, Ticks: 77}) || shelves[0] != (impl.Shelf{Alarm: 0, Ticks: 4}) || !slices.Equal(flags, []bool{true, true, true}) {
		t.Error("a scan written into", seen, shelves, flags)
	}
	if !slices.Equal(impl.Standing(b), []int64{1}) || impl.FirstOf(b, 1) != 1 {
		t.Error("kept from a call to another one")
	}
	rows, _, _ := impl.BoardRun(board(0, quiets(2)...), []impl.Scan{{There: []bool{true, false}}, {There: []bool{true, true}}, {There: []bool{false, false}}, {There: []bool{true, true}}})
	rows[0][0] = 55
	_ = append(rows[0], 56, 57, 58)
	if !sameTable(rows, [][]int64{{55}, {1}, {}, {0, 1}}) {
		t.Error("rows share memory", rows)
	}
}
