package tests

import (
	"math"
	"slices"
	"strconv"
	"strings"
	"testing"

	"loop.example/g00062/impl"
)

func TestP18Constants(t *testing.T) {
	ops := []int64{
		impl.OpInBool, impl.OpInInt, impl.OpBool, impl.OpInt, impl.OpAnd, impl.OpOr, impl.OpXor, impl.OpNot, impl.OpAdd, impl.OpSub,
		impl.OpMin, impl.OpMax, impl.OpGt, impl.OpGe, impl.OpEq, impl.OpPick, impl.OpHold, impl.OpCount, impl.OpRise, impl.OpLastBool, impl.OpLastInt,
	}
	faults := []int64{
		impl.DgLong, impl.DgForm, impl.DgName, impl.DgTwice, impl.DgWord, impl.DgCount, impl.DgMany, impl.DgNone, impl.DgKind, impl.DgLoop,
	}
	for i, op := range ops {
		if op != int64(i)+1 {
			t.Error("an op", i, op)
		}
	}
	for i, code := range faults {
		if code != int64(i)+1 {
			t.Error("a fault", i, code)
		}
	}
	if impl.MaxBlocks != 60 || impl.MaxNumber != 1000000 || impl.MaxText != 8000 {
		t.Error("a limit")
	}
}

// opRow is a row of the chapter's table: what is taken and given, b for a bool, i for an int.
type opRow struct {
	word  string
	takes string
	gives string
}

// opRows are by their ops; at 0 there is none.
func opRows() []opRow {
	return []opRow{
		{}, {"", "", "b"}, {"", "", "i"}, {"", "", "b"}, {"", "", "i"},
		{"and", "bb", "b"}, {"or", "bb", "b"}, {"xor", "bb", "b"}, {"not", "b", "b"},
		{"add", "ii", "i"}, {"sub", "ii", "i"}, {"min", "ii", "i"}, {"max", "ii", "i"},
		{"gt", "ii", "b"}, {"ge", "ii", "b"}, {"eq", "ii", "b"}, {"pick", "bii", "i"},
		{"hold", "bb", "b"}, {"count", "b", "i"}, {"rise", "b", "b"}, {"lastbool", "b", "b"}, {"lastint", "i", "i"},
	}
}

func block(name string, op int64, args ...int64) impl.Block {
	return impl.Block{Name: name, Op: op, Args: args}
}

func fixed(name string, op int64, value int64) impl.Block {
	return impl.Block{Name: name, Op: op, Value: value}
}

func diagram(blocks ...impl.Block) impl.Diagram {
	return impl.Diagram{Blocks: blocks}
}

func showing(d impl.Diagram, outs ...int64) impl.Diagram {
	return impl.Diagram{Blocks: d.Blocks, Outs: outs}
}

func diagramCopy(d impl.Diagram) impl.Diagram {
	e := impl.Diagram{Blocks: slices.Clone(d.Blocks), Outs: slices.Clone(d.Outs)}
	for i, b := range e.Blocks {
		e.Blocks[i].Args = slices.Clone(b.Args)
	}
	return e
}

func sameBlock(a impl.Block, b impl.Block) bool {
	return a.Name == b.Name && a.Op == b.Op && a.Value == b.Value && slices.Equal(a.Args, b.Args)
}

func sameDiagram(a impl.Diagram, b impl.Diagram) bool {
	return slices.EqualFunc(a.Blocks, b.Blocks, sameBlock) && slices.Equal(a.Outs, b.Outs)
}

func sameTable(a [][]int64, b [][]int64) bool {
	return slices.EqualFunc(a, b, slices.Equal[[]int64])
}

func wantName(s string) bool {
	rest := strings.Trim(s, "abcdefghijklmnopqrstuvwxyz0123456789")
	return rest == "" && len(s) >= 1 && len(s) <= 12 && !strings.Contains("0123456789", s[:1])
}

func wantValue(kind string, n int64) bool {
	if kind == "b" {
		return n == 0 || n == 1
	}
	return n >= -1000000 && n <= 1000000
}

func isAmong(place int64, d impl.Diagram) bool {
	return place >= 0 && place < int64(len(d.Blocks))
}

// giftOf is the kind of what a block gives; nothing of what has no op.
func giftOf(b impl.Block) string {
	if b.Op < 1 || b.Op > 21 {
		return ""
	}
	return opRows()[b.Op].gives
}

func wantBlock(d impl.Diagram, b impl.Block) bool {
	if !wantName(b.Name) || b.Op < 1 || b.Op > 21 || len(b.Args) != len(opRows()[b.Op].takes) {
		return false
	}
	for i, a := range b.Args {
		if !isAmong(a, d) || giftOf(d.Blocks[a]) != opRows()[b.Op].takes[i:i+1] {
			return false
		}
	}
	return b.Value == 0 || (b.Op == 3 || b.Op == 4) && wantValue(giftOf(b), b.Value)
}

func wantFormed(d impl.Diagram) bool {
	if len(d.Blocks) > 60 || len(d.Outs) > len(d.Blocks) {
		return false
	}
	for i, o := range d.Outs {
		if !isAmong(o, d) || i > 0 && o <= d.Outs[i-1] {
			return false
		}
	}
	for i, b := range d.Blocks {
		if !wantBlock(d, b) {
			return false
		}
		for _, c := range d.Blocks[:i] {
			if b.Name == c.Name {
				return false
			}
		}
	}
	return true
}

// leansOn wants a formed diagram.
func leansOn(d impl.Diagram, a int64, b int64) bool {
	return d.Blocks[a].Op < 20 && slices.Contains(d.Blocks[a].Args, b)
}

// wantLoopOf tries every list of places, the shortest first, of as short ones the
// least first; it wants few blocks.
func wantLoopOf(d impl.Diagram) []int64 {
	if !wantFormed(d) {
		return nil
	}
	for long := 1; long <= len(d.Blocks); long++ {
		for place := range int64(len(d.Blocks)) {
			if found := loopBehind(d, []int64{place}, long); found != nil {
				return found
			}
		}
	}
	return nil
}

func loopBehind(d impl.Diagram, list []int64, long int) []int64 {
	last := list[len(list)-1]
	if len(list) == long {
		if leansOn(d, last, list[0]) {
			return list
		}
		return nil
	}
	for next := range int64(len(d.Blocks)) {
		if !leansOn(d, last, next) {
			continue
		}
		if found := loopBehind(d, append(slices.Clone(list), next), long); found != nil {
			return found
		}
	}
	return nil
}

// wantOrderOf tells nothing where a loop keeps some from standing.
func wantOrderOf(d impl.Diagram) ([]int64, bool) {
	if !wantFormed(d) {
		return nil, false
	}
	order := []int64{}
	may := func(place int64) bool {
		for other := range int64(len(d.Blocks)) {
			if leansOn(d, place, other) && !slices.Contains(order, other) {
				return false
			}
		}
		return !slices.Contains(order, place)
	}
	for len(order) < len(d.Blocks) {
		next := int64(0)
		for isAmong(next, d) && !may(next) {
			next++
		}
		if !isAmong(next, d) {
			return nil, false
		}
		order = append(order, next)
	}
	return order, true
}

func cutAt(n int64) int64 {
	return max(-1000000, min(1000000, n))
}

func flag(b bool) int64 {
	if b {
		return 1
	}
	return 0
}

// wantGiven asks its Args by itself, so it needs no order; it wants a right diagram.
func wantGiftOf(d impl.Diagram, place int64, old []int64, ins []int64) int64 {
	b := d.Blocks[place]
	arg := func(i int) int64 { return wantGiftOf(d, b.Args[i], old, ins) }
	was := func(i int) int64 { return old[b.Args[i]] }
	switch b.Op {
	case 1, 2:
		came := 0
		for _, c := range d.Blocks[:place] {
			came += int(flag(c.Op <= 2))
		}
		return ins[came]
	case 3, 4:
		return b.Value
	case 5:
		return flag(arg(0) == 1 && arg(1) == 1)
	case 6:
		return flag(arg(0) == 1 || arg(1) == 1)
	case 7:
		return (arg(0) + arg(1)) % 2
	case 8:
		return flag(arg(0) == 0)
	case 9:
		return cutAt(arg(0) + arg(1))
	case 10:
		return cutAt(arg(0) - arg(1))
	case 11, 12:
		pair := []int64{arg(0), arg(1)}
		slices.Sort(pair)
		return pair[b.Op-11]
	case 13, 14, 15:
		over := arg(0) - arg(1)
		return []int64{flag(over > 0), flag(over >= 0), flag(over == 0)}[b.Op-13]
	case 16:
		return arg(2 - int(arg(0)))
	}
	return wantRemembered(b.Op, arg, was, old[place])
}

func wantRemembered(op int64, arg func(int) int64, was func(int) int64, own int64) int64 {
	switch op {
	case 17:
		return flag(arg(0) == 1 || arg(1) == 0 && own == 1)
	case 18:
		return arg(0) * min(own+1, 1000000)
	case 19:
		return flag(arg(0) == 1 && was(0) == 0)
	}
	return was(0)
}

func wantCycle(d impl.Diagram, old []int64, ins []int64) ([]int64, bool) {
	if _, right := wantOrderOf(d); !right || len(old) != len(d.Blocks) {
		return nil, false
	}
	kinds := ""
	for i, b := range d.Blocks {
		if !wantValue(giftOf(b), old[i]) {
			return nil, false
		}
		if b.Op <= 2 {
			kinds += giftOf(b)
		}
	}
	if len(ins) != len(kinds) {
		return nil, false
	}
	for i, n := range ins {
		if !wantValue(kinds[i:i+1], n) {
			return nil, false
		}
	}
	now := []int64{}
	for place := range d.Blocks {
		now = append(now, wantGiftOf(d, int64(place), old, ins))
	}
	return now, true
}

func wantShown(d impl.Diagram, rows [][]int64) ([][]int64, bool) {
	if _, right := wantOrderOf(d); !right || len(rows) > 300 {
		return nil, false
	}
	now, shown := make([]int64, len(d.Blocks)), [][]int64{}
	for _, row := range rows {
		next, ok := wantCycle(d, now, row)
		if !ok {
			return nil, false
		}
		line := []int64{}
		for _, o := range d.Outs {
			line = append(line, next[o])
		}
		now, shown = next, append(shown, line)
	}
	return shown, true
}

// judged holds what the program says of a diagram against what is wanted; few
// tells whether there are few enough blocks to look for every loop.
func judged(t *testing.T, d impl.Diagram, few bool) bool {
	t.Helper()
	kept := diagramCopy(d)
	order, right := wantOrderOf(d)
	if ok := impl.DiagramOk(d); ok != right {
		t.Error("right", d, ok, right)
	}
	if got := impl.OrderOf(d); !slices.Equal(got, order) {
		t.Error("order", d, got, order)
	}
	loop := impl.LoopOf(d)
	if few && !slices.Equal(loop, wantLoopOf(d)) {
		t.Error("loop", d, loop, wantLoopOf(d))
	}
	if wantFormed(d) && (len(loop) == 0) != right || !wantFormed(d) && len(loop) != 0 {
		t.Error("a loop is what is wrong", d, loop)
	}
	if right != (impl.WriteDiagram(d) != "") && len(d.Blocks) > 0 {
		t.Error("written", d)
	}
	if !sameDiagram(d, kept) {
		t.Error("written into", d, kept)
	}
	return right
}

func cycled(t *testing.T, d impl.Diagram, old []int64, ins []int64) ([]int64, bool) {
	t.Helper()
	kept, keptOld, keptIns := diagramCopy(d), slices.Clone(old), slices.Clone(ins)
	got, ok := impl.Cycle(d, old, ins)
	if want, may := wantCycle(d, old, ins); !slices.Equal(got, want) || ok != may {
		t.Error(d, old, ins, got, ok, want, may)
	}
	if !sameDiagram(d, kept) || !slices.Equal(old, keptOld) || !slices.Equal(ins, keptIns) {
		t.Error("written into", d, old, ins)
	}
	return got, ok
}

func shows(t *testing.T, d impl.Diagram, rows [][]int64) ([][]int64, bool) {
	t.Helper()
	kept := diagramCopy(d)
	got, ok := impl.RunDiagram(d, rows)
	if want, may := wantShown(d, rows); !sameTable(got, want) || ok != may {
		t.Error(d, rows, got, ok, want, may)
	}
	if !sameDiagram(d, kept) {
		t.Error("written into", d)
	}
	return got, ok
}

// sources has a block of each kind of value that comes in and that is set.
func sources() []impl.Block {
	return []impl.Block{block("b", 1), block("i", 2), fixed("yes", 3, 1), fixed("ten", 4, 10)}
}

// argsFor are places of sources that a block of this op may take, or other ones.
func argsFor(op int64, other int) []int64 {
	args := []int64{}
	for i, kind := range opRows()[op].takes {
		place := int64(0)
		if (kind == 'i') != (i == other) {
			place = 1
		}
		args = append(args, place)
	}
	return args
}

func TestP18NoBlocks(t *testing.T) {
	none := impl.Diagram{}
	if !judged(t, none, true) || len(impl.OrderOf(none)) != 0 || impl.WriteDiagram(none) != "" {
		t.Error("no Blocks are right")
	}
	if now, ok := cycled(t, none, nil, nil); !ok || len(now) != 0 {
		t.Error(now, ok)
	}
	if rows, ok := shows(t, none, [][]int64{nil, {}}); !ok || len(rows) != 2 || len(rows[0]) != 0 {
		t.Error(rows, ok)
	}
	if judged(t, showing(none, 0), true) || judged(t, showing(none, -1), true) {
		t.Error("an Out without Blocks")
	}
	cycled(t, none, []int64{0}, nil)
	cycled(t, none, nil, []int64{0})
	shows(t, none, [][]int64{nil, {0}})
}

func manyBlocks(n int) impl.Diagram {
	d := impl.Diagram{}
	for i := range n {
		d.Blocks = append(d.Blocks, fixed("x"+strconv.Itoa(i), 4, int64(i)))
		d.Outs = append(d.Outs, int64(i))
	}
	return d
}

func TestP18Sizes(t *testing.T) {
	for _, n := range []int{0, 1, 59, 60, 61, 100} {
		if ok := judged(t, manyBlocks(n), false); ok != (n <= 60) {
			t.Error(n, ok)
		}
		if ok := judged(t, showing(manyBlocks(n)), false); ok != (n <= 60) {
			t.Error("without Outs", n, ok)
		}
	}
}

func TestP18Outs(t *testing.T) {
	d := manyBlocks(3)
	for _, c := range []struct {
		outs []int64
		ok   bool
	}{
		{nil, true}, {[]int64{0}, true}, {[]int64{2}, true}, {[]int64{0, 2}, true}, {[]int64{0, 1, 2}, true},
		{[]int64{3}, false}, {[]int64{-1}, false}, {[]int64{0, 1, 2, 3}, false}, {[]int64{1, 0}, false}, {[]int64{1, 1}, false},
		{[]int64{0, 0, 1, 2}, false}, {[]int64{0, 2, 1}, false}, {[]int64{math.MinInt64}, false}, {[]int64{math.MaxInt64}, false},
		{[]int64{-1, 0}, false}, {[]int64{0, 1 << 32}, false},
	} {
		if ok := judged(t, showing(d, c.outs...), true); ok != c.ok {
			t.Error(c.outs, ok)
		}
	}
}

func toldNames() []struct {
	name string
	ok   bool
} {
	return []struct {
		name string
		ok   bool
	}{
		{"a", true}, {"z", true}, {"a0", true}, {"z9", true}, {"in", true}, {"do", true}, {"true", true}, {"and", true},
		{"abcdefghijkl", true}, {"a12345678901", true}, {"abcdefghijklm", false}, {"a123456789012", false},
		{"", false}, {"0", false}, {"9a", false}, {"A", false}, {"aB", false}, {"Z", false}, {"a_", false}, {"a-b", false}, {"a.b", false},
		{"`", false}, {"{", false}, {"a`", false}, {"a{", false}, {"a/", false}, {"a:", false}, {"a\x00", false}, {"\xffa", false}, {"ä", false}, {"aé", false},
		{"a b", false}, {" a", false}, {"a ", false}, {"a\n", false}, {"a\t", false}, {"a\r", false},
	}
}

func TestP18Names(t *testing.T) {
	for _, c := range toldNames() {
		if ok := judged(t, diagram(fixed("other", 4, 0), fixed(c.name, 4, 0)), true); ok != c.ok {
			t.Errorf("%q %v", c.name, ok)
		}
	}
	for _, c := range []struct {
		first, second, third string
		ok                   bool
	}{
		{"a", "b", "c", true}, {"a", "a", "c", false}, {"a", "b", "a", false}, {"a", "b", "b", false}, {"a", "aa", "aaa", true}, {"a", "a", "a", false},
	} {
		if ok := judged(t, diagram(block(c.first, 1), block(c.second, 2), block(c.third, 2)), true); ok != c.ok {
			t.Error(c, ok)
		}
	}
}

func TestP18Ops(t *testing.T) {
	for op := int64(1); op <= 21; op++ {
		if !judged(t, diagram(append(sources(), block("x", op, argsFor(op, -1)...))...), true) {
			t.Error("right", op)
		}
		for i := range opRows()[op].takes {
			if judged(t, diagram(append(sources(), block("x", op, argsFor(op, i)...))...), true) {
				t.Error("one of the other kind", op, i)
			}
			for _, none := range []int64{-1, 5, math.MinInt64, math.MaxInt64} {
				args := argsFor(op, -1)
				args[i] = none
				if judged(t, diagram(append(sources(), block("x", op, args...))...), true) {
					t.Error("a place that is none", op, i, none)
				}
			}
		}
		for _, more := range []int64{0, 1, 4} {
			if judged(t, diagram(append(sources(), block("x", op, append(argsFor(op, -1), more)...))...), true) {
				t.Error("one too many", op, more)
			}
		}
		if args := argsFor(op, -1); len(args) > 0 && judged(t, diagram(append(sources(), block("x", op, args[1:]...))...), true) {
			t.Error("one too few at the front", op)
		}
		if args := argsFor(op, -1); len(args) > 0 && judged(t, diagram(append(sources(), block("x", op, args[:len(args)-1]...))...), true) {
			t.Error("one too few", op)
		}
	}
	for _, op := range []int64{0, 22, -1, 100, math.MinInt64, math.MaxInt64, 1 << 32, 1<<32 + 4} {
		for _, args := range [][]int64{nil, {0}, {0, 0}, {1, 1}, {0, 1, 1}} {
			if judged(t, diagram(append(sources(), block("x", op, args...))...), true) {
				t.Error("no op", op, args)
			}
		}
		d := diagram(block("x", 8, 1), fixed("y", op, 0))
		if judged(t, d, true) {
			t.Error("leans on no op", op)
		}
	}
}

func TestP18Values(t *testing.T) {
	edges := []int64{math.MinInt64, -1000001, -1000000, -2, -1, 0, 1, 2, 999999, 1000000, 1000001, math.MaxInt64}
	for op := int64(1); op <= 21; op++ {
		for _, v := range edges {
			b := block("x", op, argsFor(op, -1)...)
			b.Value = v
			want := v == 0 || op == 3 && v == 1 || op == 4 && v >= -1000000 && v <= 1000000
			if ok := judged(t, diagram(append(sources(), b)...), true); ok != want {
				t.Error(op, v, ok)
			}
		}
	}
}

// nots is a diagram of OpNot, OpAnd and OpInBool by what they lean on.
func nots(rows ...[]int64) impl.Diagram {
	d := impl.Diagram{}
	for i, args := range rows {
		op := []int64{1, 8, 5}[len(args)]
		d.Blocks = append(d.Blocks, block("x"+strconv.Itoa(i), op, args...))
	}
	return d
}

func TestP18LoopsTold(t *testing.T) {
	for _, c := range []struct {
		name string
		d    impl.Diagram
		loop []int64
	}{
		{"none", nots(nil, []int64{0}, []int64{0, 1}), nil},
		{"on itself", nots([]int64{0}), []int64{0}},
		{"on itself, by its second Arg", nots(nil, []int64{0, 1}), []int64{1}},
		{"two", nots([]int64{1}, []int64{0}), []int64{0, 1}},
		{"three", nots([]int64{2}, []int64{0}, []int64{1}), []int64{0, 2, 1}},
		{"behind one that only leans on it", nots([]int64{1}, []int64{2}, []int64{1}), []int64{1, 2}},
		{"two as short", nots([]int64{1}, []int64{0}, []int64{3}, []int64{2}), []int64{0, 1}},
		{"two as short from one place", nots([]int64{2, 1}, []int64{0}, []int64{0}), []int64{0, 1}},
		{"two as short, of three, apart at the end", nots([]int64{1}, []int64{3, 2}, []int64{0}, []int64{0}), []int64{0, 1, 2}},
		{"a shorter one behind a longer one", nots([]int64{1}, []int64{2}, []int64{0}, []int64{4}, []int64{3}), []int64{3, 4}},
		{"one on itself behind longer ones", nots([]int64{1}, []int64{0}, []int64{2, 1}), []int64{2}},
		{"a shorter way back", nots([]int64{1, 3}, []int64{2}, []int64{3}, []int64{0}), []int64{0, 3}},
		{"by way of the cycle ahead", diagram(block("a", 20, 1), block("b", 8, 0)), nil},
		{"a last one of itself", diagram(block("a", 20, 0)), nil},
		{"a last int of itself", diagram(block("a", 21, 0)), nil},
		{"by way of the cycle ahead, ints", diagram(block("a", 9, 1, 2), block("b", 21, 0), fixed("one", 4, 1)), nil},
		{"one by way of the cycle ahead, one not", diagram(block("a", 20, 1), block("b", 5, 0, 2), block("c", 8, 1)), []int64{1, 2}},
		{"a hold of itself", diagram(block("a", 17, 1, 0), block("b", 1)), []int64{0}},
		{"a rise of itself", diagram(block("a", 19, 0)), []int64{0}},
		{"a count by way of a comparison", diagram(block("a", 18, 1), block("b", 13, 0, 2), fixed("five", 4, 5)), []int64{0, 1}},
		{"not formed", nots([]int64{0}, []int64{7}), nil},
		{"not formed by its Outs", showing(nots([]int64{0}), 1), nil},
	} {
		if got := impl.LoopOf(c.d); !slices.Equal(got, c.loop) {
			t.Error(c.name, got)
		}
		judged(t, c.d, true)
	}
}

// TestP18EveryLoop goes through all diagrams of four blocks that lean on one
// another singly, and of three that lean on up to two.
func TestP18EveryLoop(t *testing.T) {
	allSays(4, 5, func(says []int64) {
		d := impl.Diagram{}
		for i, s := range says {
			b := block("x"+strconv.Itoa(i), 8, s)
			if s == 4 {
				b = block(b.Name, 1)
			}
			d.Blocks = append(d.Blocks, b)
		}
		judged(t, d, true)
	})
	allSays(6, 3, func(says []int64) {
		judged(t, nots(says[0:2:2], says[2:4:4], says[4:6:6]), true)
	})
}

func bigLoop(n int) impl.Diagram {
	d := impl.Diagram{}
	for i := range n {
		d.Blocks = append(d.Blocks, block("x"+strconv.Itoa(i), 8, int64((i+n-1)%n)))
	}
	return d
}

func TestP18BigLoops(t *testing.T) {
	d := bigLoop(60)
	want := []int64{0}
	for i := int64(59); i > 0; i-- {
		want = append(want, i)
	}
	if got := impl.LoopOf(d); !slices.Equal(got, want) {
		t.Error(got)
	}
	judged(t, d, false)
	d.Blocks[30] = block("x30", 5, 29, 45)
	judged(t, d, false)
	if got := impl.LoopOf(d); !slices.Equal(got, []int64{30, 45, 44, 43, 42, 41, 40, 39, 38, 37, 36, 35, 34, 33, 32, 31}) {
		t.Error(got)
	}
	d.Blocks[0] = block("x0", 1)
	if got := impl.LoopOf(d); len(got) != 16 || got[0] != 30 {
		t.Error(got)
	}
	d.Blocks[45] = block("x45", 20, 44)
	if judged(t, d, false) != true {
		t.Error("open now")
	}
}

func TestP18OrdersTold(t *testing.T) {
	for _, c := range []struct {
		d     impl.Diagram
		order []int64
	}{
		{nots(nil, nil, nil), []int64{0, 1, 2}},
		{nots([]int64{2}, []int64{0}, nil), []int64{2, 0, 1}},
		{nots([]int64{3}, nil, []int64{0, 1}, nil), []int64{1, 3, 0, 2}},
		{nots(nil, []int64{4}, []int64{0}, []int64{1}, nil), []int64{0, 2, 4, 1, 3}},
		{nots([]int64{1}, []int64{2}, []int64{3}, nil), []int64{3, 2, 1, 0}},
		{diagram(block("a", 20, 1), block("b", 8, 0)), []int64{0, 1}},
		{diagram(block("b", 8, 1), block("a", 20, 0)), []int64{1, 0}},
		{nots([]int64{0}), nil},
		{nots(nil, []int64{9}), nil},
	} {
		if got := impl.OrderOf(c.d); !slices.Equal(got, c.order) {
			t.Error(c.d, got)
		}
		judged(t, c.d, true)
	}
}

// valuesOf are values of a kind, those at its bounds among them.
func valuesOf(kind string) []int64 {
	if kind == "b" {
		return []int64{0, 1}
	}
	return []int64{-1000000, -999999, -1, 0, 1, 2, 999999, 1000000}
}

// TestP18EveryOp asks each op of the table of every row of such values, now and in
// the cycle ahead.
func TestP18EveryOp(t *testing.T) {
	for op := int64(5); op <= 21; op++ {
		row := opRows()[op]
		d, args := impl.Diagram{}, []int64{}
		for i := range row.takes {
			d.Blocks = append(d.Blocks, block("in"+strconv.Itoa(i), int64(1+strings.Index("bi", row.takes[i:i+1]))))
			args = append(args, int64(i))
		}
		d.Blocks = append(d.Blocks, block("x", op, args...))
		olds := [][]int64{make([]int64, len(d.Blocks))}
		if op >= 17 {
			olds = rowsOfKinds(row.takes + row.gives)
		}
		for _, old := range olds {
			for _, ins := range rowsOfKinds(row.takes) {
				if _, ok := cycled(t, d, old, ins); !ok {
					t.Error(op, old, ins)
				}
			}
		}
	}
}

// rowsOfKinds are all rows of valuesOf the kinds.
func rowsOfKinds(kinds string) [][]int64 {
	rows := [][]int64{{}}
	for i := range kinds {
		longer := [][]int64{}
		for _, row := range rows {
			for _, n := range valuesOf(kinds[i : i+1]) {
				longer = append(longer, append(slices.Clone(row), n))
			}
		}
		rows = longer
	}
	return rows
}

func TestP18OpsTold(t *testing.T) {
	for _, c := range []struct {
		name string
		op   int64
		old  []int64
		ins  []int64
		now  int64
	}{
		{"a sum at the top", 9, nil, []int64{1000000, 1}, 1000000},
		{"a sum just at the top", 9, nil, []int64{999999, 1}, 1000000},
		{"a sum at the bottom", 9, nil, []int64{-1000000, -1000000}, -1000000},
		{"a difference at the top", 10, nil, []int64{1000000, -1}, 1000000},
		{"a difference at the bottom", 10, nil, []int64{-1000000, 1}, -1000000},
		{"a difference just at the bottom", 10, nil, []int64{-999999, 1}, -1000000},
		{"the second when the first is 1", 16, nil, []int64{1, 7, 8}, 7},
		{"else the third", 16, nil, []int64{0, 7, 8}, 8},
		{"a hold with both", 17, []int64{0, 0, 0}, []int64{1, 1}, 1},
		{"a hold with the second", 17, []int64{1, 0, 1}, []int64{0, 1}, 0},
		{"a hold with none, 1 ahead", 17, []int64{0, 0, 1}, []int64{0, 0}, 1},
		{"a hold with none, 0 ahead", 17, []int64{1, 1, 0}, []int64{0, 0}, 0},
		{"a count", 18, []int64{0, 41}, []int64{1}, 42},
		{"a count from below 0", 18, []int64{0, -5}, []int64{1}, -4},
		{"a count to the top", 18, []int64{0, 999999}, []int64{1}, 1000000},
		{"a count at the top", 18, []int64{0, 1000000}, []int64{1}, 1000000},
		{"a count that ends", 18, []int64{1, 41}, []int64{0}, 0},
		{"a rise", 19, []int64{0, 0}, []int64{1}, 1},
		{"no rise", 19, []int64{1, 0}, []int64{1}, 0},
		{"a fall", 19, []int64{1, 1}, []int64{0}, 0},
		{"a last one", 20, []int64{1, 0}, []int64{0}, 1},
		{"a last int", 21, []int64{-7, 3}, []int64{9}, -7},
	} {
		row := opRows()[c.op]
		d, args := impl.Diagram{}, []int64{}
		for i := range row.takes {
			d.Blocks = append(d.Blocks, block("in"+strconv.Itoa(i), int64(1+strings.Index("bi", row.takes[i:i+1]))))
			args = append(args, int64(i))
		}
		d.Blocks = append(d.Blocks, block("x", c.op, args...))
		old := c.old
		if old == nil {
			old = make([]int64, len(d.Blocks))
		}
		now, ok := impl.Cycle(d, old, c.ins)
		if !ok || now[len(now)-1] != c.now || !slices.Equal(now[:len(now)-1], c.ins) {
			t.Error(c.name, now, ok)
		}
	}
}

func TestP18CycleBounds(t *testing.T) {
	d := diagram(block("b", 1), block("n", 8, 3), block("i", 2), block("c", 1), fixed("ten", 4, 10), block("s", 9, 2, 4), fixed("yes", 3, 1))
	old, ins := []int64{1, 0, 5, 1, 10, 15, 1}, []int64{1, -20, 0}
	now, ok := cycled(t, d, old, ins)
	if !ok || !slices.Equal(now, []int64{1, 1, -20, 0, 10, -10, 1}) {
		t.Error(now, ok)
	}
	refused := func(name string, old []int64, ins []int64) {
		t.Helper()
		if now, ok := cycled(t, d, old, ins); ok || len(now) != 0 {
			t.Error(name, now, ok)
		}
	}
	refused("old one too few", old[:6], ins)
	refused("old one too many", append(slices.Clone(old), 0), ins)
	refused("no old", nil, ins)
	refused("ins one too few", old, ins[:2])
	refused("ins one too many", old, append(slices.Clone(ins), 0))
	refused("no ins", old, nil)
	for i, b := range d.Blocks {
		for _, n := range []int64{math.MinInt64, -1000001, -1, 2, 1000001, math.MaxInt64} {
			wrong := slices.Clone(old)
			wrong[i] = n
			if _, ok := cycled(t, d, wrong, ins); ok != wantValue(giftOf(b), n) {
				t.Error("old", i, n, ok)
			}
		}
	}
	for i, kind := range []string{"b", "i", "b"} {
		for _, n := range []int64{math.MinInt64, -1000001, -1000000, -1, 0, 1, 2, 1000000, 1000001, math.MaxInt64} {
			wrong := slices.Clone(ins)
			wrong[i] = n
			if _, ok := cycled(t, d, old, wrong); ok != wantValue(kind, n) {
				t.Error("ins", i, n, ok)
			}
		}
	}
	d.Blocks[1].Args[0] = 1
	refused("not right", old, ins)
	d.Blocks[1].Args[0] = 2
	refused("not formed", old, ins)
}

func TestP18RunsTold(t *testing.T) {
	d := showing(diagram(block("in0", 1), block("up", 19, 0), block("n", 18, 0), block("was", 20, 0), block("sum", 9, 5, 2), block("total", 21, 4)), 1, 2, 3, 4)
	rows := [][]int64{{1}, {1}, {0}, {1}, {1}}
	want := [][]int64{{1, 1, 0, 1}, {0, 2, 1, 3}, {0, 0, 1, 3}, {1, 1, 0, 4}, {0, 2, 1, 6}}
	if got, ok := shows(t, d, rows); !ok || !sameTable(got, want) {
		t.Error(got, ok)
	}
	if got, ok := shows(t, showing(d), rows); !ok || len(got) != 5 || len(got[0]) != 0 {
		t.Error("no Outs", got, ok)
	}
	if got, ok := shows(t, d, nil); !ok || len(got) != 0 {
		t.Error("no rows", got, ok)
	}
	for _, n := range []int{1, 299, 300, 301, 600} {
		if got, ok := shows(t, d, slices.Repeat([][]int64{{1}}, n)); ok != (n <= 300) || ok && len(got) != n || !ok && got != nil {
			t.Error(n, len(got), ok)
		}
	}
	for at := range rows {
		for _, wrong := range [][]int64{nil, {2}, {-1}, {0, 0}} {
			list := slices.Clone(rows)
			list[at] = wrong
			if got, ok := shows(t, d, list); ok || got != nil {
				t.Error(at, wrong, got, ok)
			}
		}
	}
	for _, wrong := range []impl.Diagram{nots([]int64{0}), nots([]int64{1}), manyBlocks(61), showing(d, 9)} {
		for _, list := range [][][]int64{nil, {nil}, {{1}}} {
			if got, ok := shows(t, wrong, list); ok || got != nil {
				t.Error(wrong, got, ok)
			}
		}
	}
}

// someDiagram has a source of each kind, then blocks of any op that lean on any
// block that gives what they take; loops are many or none as back is, those of
// one block the fewest.
func someDiagram(seed int64, n int, back bool) impl.Diagram {
	ops, picks := someNumbers(seed, n, 1, 21), someNumbers(seed+1, 4*n+200, 0, 1000000)
	d := impl.Diagram{}
	for i := range n {
		op := ops[i]
		if i < 4 {
			op = int64(i) + 1
		}
		d.Blocks = append(d.Blocks, block("x"+strconv.Itoa(i), op))
	}
	for i := range d.Blocks {
		b := &d.Blocks[i]
		switch b.Op {
		case 3:
			b.Value = picks[i] % 2
		case 4:
			b.Value = picks[i]%21 - 10
		}
		most := i
		if back || b.Op >= 20 {
			most = n
		}
		for k, kind := range opRows()[b.Op].takes {
			place := int(picks[n+3*i+k]) % most
			for giftOf(d.Blocks[place]) != string(kind) || place == i && seed%8 != 0 {
				place = (place + 1) % most
			}
			b.Args = append(b.Args, int64(place))
		}
		if picks[4*n+i]%3 == 0 {
			d.Outs = append(d.Outs, int64(i))
		}
	}
	return d
}

func rowsFor(d impl.Diagram, seed int64, n int) [][]int64 {
	rows := [][]int64{}
	for k := range n {
		row, picks := []int64{}, someNumbers(seed+int64(k), len(d.Blocks), -1, 20)
		for i, b := range d.Blocks {
			switch b.Op {
			case 1:
				row = append(row, flag(picks[i] > 9))
			case 2:
				row = append(row, picks[i])
			}
		}
		rows = append(rows, row)
	}
	return rows
}

func TestP18SomeDiagrams(t *testing.T) {
	right, loops := 0, 0
	for seed := range int64(900) {
		d := someDiagram(seed, 4+int(seed%9), true)
		if judged(t, d, true) {
			right++
			shows(t, d, rowsFor(d, seed, 6))
		} else if len(impl.LoopOf(d)) > 1 {
			loops++
		}
	}
	if right < 50 || loops < 50 {
		t.Error("too few of a kind", right, loops)
	}
	for seed := range int64(60) {
		d := someDiagram(seed, 10+int(seed%10), false)
		if !judged(t, d, false) {
			t.Error("without a loop", seed)
		}
		shows(t, d, rowsFor(d, seed, 8))
	}
}

// moved stands the blocks of d in another order, by where each of them goes, and
// what comes in with them.
func moved(d impl.Diagram, rows [][]int64, goes []int64) (impl.Diagram, [][]int64) {
	e := impl.Diagram{Blocks: make([]impl.Block, len(d.Blocks))}
	came := make([]int, len(d.Blocks))
	ins := 0
	for i, b := range d.Blocks {
		c := impl.Block{Name: b.Name, Op: b.Op, Value: b.Value}
		for _, a := range b.Args {
			c.Args = append(c.Args, goes[a])
		}
		e.Blocks[goes[i]] = c
		if b.Op <= 2 {
			came[goes[i]] = ins
			ins++
		}
	}
	for _, o := range d.Outs {
		e.Outs = append(e.Outs, goes[o])
	}
	slices.Sort(e.Outs)
	turned := [][]int64{}
	for _, row := range rows {
		line := []int64{}
		for i, b := range e.Blocks {
			if b.Op <= 2 {
				line = append(line, row[came[i]])
			}
		}
		turned = append(turned, line)
	}
	return e, turned
}

func shownByName(d impl.Diagram, row []int64) map[string]int64 {
	names := map[string]int64{}
	for i, o := range d.Outs {
		names[d.Blocks[o].Name] = row[i]
	}
	return names
}

func shuffled(seed int64, n int) []int64 {
	goes := make([]int64, n)
	for i := range goes {
		goes[i] = int64(i)
	}
	for i, k := range someNumbers(seed, n, 0, 1000000) {
		j := int(k) % (i + 1)
		goes[i], goes[j] = goes[j], goes[i]
	}
	return goes
}

// TestP18NoOrderIsAsked: blocks that stand in another order show the same, by their names.
func TestP18NoOrderIsAsked(t *testing.T) {
	for seed := range int64(150) {
		d := someDiagram(seed, 5+int(seed*7%56), false)
		rows := rowsFor(d, seed, 12)
		shown, ok := impl.RunDiagram(d, rows)
		if !ok {
			t.Fatal(seed)
		}
		for turn := range int64(3) {
			e, turned := moved(d, rows, shuffled(seed*3+turn, len(d.Blocks)))
			again, ok := impl.RunDiagram(e, turned)
			if !ok || len(again) != len(shown) {
				t.Fatal(seed, turn, ok)
			}
			for i := range shown {
				was, is := shownByName(d, shown[i]), shownByName(e, again[i])
				for name, n := range was {
					if m, there := is[name]; !there || m != n || len(is) != len(was) {
						t.Fatal(seed, turn, i, name, n, m)
					}
				}
			}
		}
	}
}

// wantText writes a right diagram.
func wantText(d impl.Diagram) string {
	text := ""
	for _, b := range d.Blocks {
		switch b.Op {
		case 1:
			text += "in " + b.Name + " bool"
		case 2:
			text += "in " + b.Name + " int"
		case 3:
			text += "set " + b.Name + " " + []string{"false", "true"}[b.Value]
		case 4:
			text += "set " + b.Name + " " + strconv.Itoa(int(b.Value))
		default:
			text += "do " + b.Name + " " + opRows()[b.Op].word
			for _, a := range b.Args {
				text += " " + d.Blocks[a].Name
			}
		}
		text += "\n"
	}
	for _, o := range d.Outs {
		text += "out " + d.Blocks[o].Name + "\n"
	}
	return text
}

func readsBack(t *testing.T, d impl.Diagram) {
	t.Helper()
	text := impl.WriteDiagram(d)
	if text != wantText(d) {
		t.Errorf("%v %q", d, text)
	}
	if e, code, line := impl.ReadDiagram(text); code != 0 || line != 0 || !sameDiagram(d, e) {
		t.Errorf("%q %v %v %v", text, e, code, line)
	}
}

func TestP18ReadBack(t *testing.T) {
	for op := int64(1); op <= 21; op++ {
		readsBack(t, showing(diagram(append(sources(), block("x", op, argsFor(op, -1)...))...), 0, 4))
	}
	for _, v := range []int64{-1000000, -1, 0, 1, 1000000} {
		readsBack(t, diagram(fixed("a", 4, v)))
	}
	readsBack(t, diagram(fixed("a", 3, 0), fixed("b", 3, 1)))
	readsBack(t, impl.Diagram{})
	readsBack(t, manyBlocks(60))
	for seed := range int64(200) {
		d := someDiagram(seed, 4+int(seed*5%57), false)
		readsBack(t, d)
		e, _ := moved(d, nil, shuffled(seed, len(d.Blocks)))
		readsBack(t, e)
	}
}

// TestP18LongestTextReadBack: no right diagram has a text that is too long.
func TestP18LongestTextReadBack(t *testing.T) {
	d := impl.Diagram{}
	for i := range int64(60) {
		d.Blocks = append(d.Blocks, block("abcdefghij"+strconv.Itoa(int(10+i)), 16, 59, 58, 58))
		d.Outs = append(d.Outs, i)
	}
	d.Blocks[58] = fixed(d.Blocks[58].Name, 4, -1000000)
	d.Blocks[59] = block(d.Blocks[59].Name, 1)
	readsBack(t, d)
}

func TestP18WrittenTold(t *testing.T) {
	d := showing(diagram(block("go", 8, 1), fixed("stop", 3, 1), fixed("n", 4, -12), block("m", 2), block("s", 16, 0, 2, 3)), 0, 4)
	if got := impl.WriteDiagram(d); got != "do go not stop\nset stop true\nset n -12\nin m int\ndo s pick go n m\nout go\nout s\n" {
		t.Errorf("%q", got)
	}
	for _, wrong := range []impl.Diagram{nots([]int64{0}), nots([]int64{1}), manyBlocks(61), showing(d, 4, 0), diagram(block("A", 1)), diagram(block("a", 0))} {
		if got := impl.WriteDiagram(wrong); got != "" {
			t.Errorf("%v %q", wrong, got)
		}
	}
}

// wantWords parts a line at its blanks, byte by byte.
func wantWords(line string) []string {
	words, word := []string{}, ""
	for i := range len(line) {
		if line[i] != 32 {
			word += line[i : i+1]
		}
		if word != "" && (line[i] == 32 || i == len(line)-1) {
			words, word = append(words, word), ""
		}
	}
	return words
}

// wantNumber takes a number only when it is one of those that are written so.
func wantNumber(word string) (int64, bool) {
	digits := strings.TrimPrefix(word, "-")
	if digits == "" || len(digits) > 7 || strings.Trim(digits, "0123456789") != "" {
		return 0, false
	}
	n := int64(0)
	for i := range len(digits) {
		n = 10*n + int64(digits[i]-'0')
	}
	if digits[0] == '0' && word != "0" || n > 1000000 {
		return 0, false
	}
	if digits != word {
		n = -n
	}
	return n, true
}

func opOfWord(word string) int64 {
	return int64(slices.IndexFunc(opRows(), func(r opRow) bool { return r.word == word && word != "" }))
}

// wantForm is the block that a line of words makes as far as it stands there by
// itself; its Op is 0 for an "out", -1 for a "do".
func wantForm(words []string) (impl.Block, bool) {
	form := words[0] + strconv.Itoa(min(3, len(words)))
	if len(words) > 3 && words[0] != "do" {
		return impl.Block{}, false
	}
	switch form {
	case "out2":
		return impl.Block{Name: words[1]}, true
	case "do3":
		return impl.Block{Name: words[1], Op: -1}, true
	case "in3":
		op := int64(1 + slices.Index([]string{"bool", "int"}, words[2]))
		return impl.Block{Name: words[1], Op: op}, op > 0
	case "set3":
		if v := slices.Index([]string{"false", "true"}, words[2]); v >= 0 {
			return impl.Block{Name: words[1], Op: 3, Value: int64(v)}, true
		}
		n, ok := wantNumber(words[2])
		return impl.Block{Name: words[1], Op: 4, Value: n}, ok
	}
	return impl.Block{}, false
}

// wantLine is the fault of a line, those of the lines ahead being all right.
func wantLine(words []string, names []string, outs []string) int64 {
	b, ok := wantForm(words)
	stand := names
	if b.Op == 0 {
		stand = outs
	}
	switch {
	case !ok:
		return 2
	case !wantName(b.Name):
		return 3
	case slices.Contains(stand, b.Name):
		return 4
	case b.Op == -1 && opOfWord(words[2]) < 0:
		return 5
	case b.Op == -1 && len(words)-3 != len(opRows()[opOfWord(words[2])].takes):
		return 6
	case b.Op != 0 && len(names) == 60:
		return 7
	}
	return 0
}

// wantArgs is the fault of a line whose names are all known, and the places.
func wantArgs(words []string, names []string, blocks []impl.Block) ([]int64, int64) {
	args, takes := words[1:], ""
	if words[0] == "do" {
		args, takes = words[3:], opRows()[opOfWord(words[2])].takes
	}
	places, code := []int64{}, int64(0)
	for _, a := range args {
		places = append(places, int64(slices.Index(names, a)))
	}
	if slices.Contains(places, -1) {
		return nil, 8
	}
	for i := range takes {
		if giftOf(blocks[places[i]]) != takes[i:i+1] {
			code = 9
		}
	}
	return places, code
}

func wantRead18(text string) (impl.Diagram, int64, int64) {
	if len(text) > 8000 {
		return impl.Diagram{}, 1, 0
	}
	d, names, outs, at := impl.Diagram{}, []string{}, []string{}, []int64{}
	lines := strings.Split(text, "\n")
	for i, line := range lines {
		words := wantWords(line)
		if len(words) == 0 {
			continue
		}
		if code := wantLine(words, names, outs); code != 0 {
			return impl.Diagram{}, code, int64(i) + 1
		}
		b, _ := wantForm(words)
		if b.Op == -1 {
			b.Op = opOfWord(words[2])
		}
		if b.Op == 0 {
			outs = append(outs, b.Name)
			continue
		}
		d.Blocks, names, at = append(d.Blocks, b), append(names, b.Name), append(at, int64(i)+1)
	}
	for i, line := range lines {
		words := wantWords(line)
		if len(words) == 0 || words[0] != "do" && words[0] != "out" {
			continue
		}
		places, code := wantArgs(words, names, d.Blocks)
		if code != 0 {
			return impl.Diagram{}, code, int64(i) + 1
		}
		if words[0] == "do" {
			d.Blocks[slices.Index(names, words[1])].Args = places
		} else {
			d.Outs = append(d.Outs, places...)
		}
	}
	slices.Sort(d.Outs)
	if loop := wantLoopOf(d); loop != nil {
		return impl.Diagram{}, 10, at[loop[0]]
	}
	return d, 0, 0
}

func reading(t *testing.T, text string) int64 {
	t.Helper()
	d, code, line := impl.ReadDiagram(text)
	if e, c, l := wantRead18(text); !sameDiagram(d, e) || code != c || line != l {
		t.Errorf("%q: %v %v %v, wanted %v %v %v", text, d, code, line, e, c, l)
	}
	if code != 0 && (len(d.Blocks) != 0 || len(d.Outs) != 0) {
		t.Errorf("%q: a fault tells a diagram, too", text)
	}
	if code == 0 && !impl.DiagramOk(d) {
		t.Errorf("%q: what is read is not right", text)
	}
	return code
}

// told holds one reading against a code and a line, and against wantRead18.
func told(t *testing.T, text string, code int64, line int64) {
	t.Helper()
	if _, c, l := impl.ReadDiagram(text); c != code || l != line {
		t.Errorf("%q: %v %v, told %v %v", text, c, l, code, line)
	}
	reading(t, text)
}

func TestP18ReadTold(t *testing.T) {
	want := showing(diagram(block("x", 5, 1, 2), block("a", 1), fixed("b", 3, 0), fixed("n", 4, -7), block("s", 16, 2, 3, 3)), 0, 3, 4)
	for _, text := range []string{
		"do x and a b\nin a bool\nset b false\nset n -7\ndo s pick b n n\nout x\nout n\nout s\n",
		"do x and a b\nin a bool\nset b false\nset n -7\ndo s pick b n n\nout s\nout n\nout x",
		"out s\ndo x and a b\nout n\nin a bool\nset b false\nout x\nset n -7\ndo s pick b n n",
		"\n\ndo   x and  a b  \n   in a bool\n \n  set b false\nset n     -7\ndo s pick b n n\nout x\n\n   \nout n\nout s  \n\n\n",
	} {
		d, code, line := impl.ReadDiagram(text)
		if code != 0 || line != 0 || !sameDiagram(d, want) {
			t.Errorf("%q %v %v %v", text, d, code, line)
		}
		reading(t, text)
	}
	for _, text := range []string{"", "\n", " ", "   \n \n\n  ", strings.Repeat("\n", 8000), strings.Repeat(" ", 8000)} {
		told(t, text, 0, 0)
	}
}

func TestP18FormsTold(t *testing.T) {
	for _, line := range []string{
		"in", "in a", "in a bool int", "in a float", "in a Bool", "in a true", "in a 1", "in A float", "in a bool bool",
		"set", "set a", "set a 1 2", "set a True", "set a int", "set a true false", "set a x", "set A x",
		"do", "do a", "do A", "out", "out a b", "out A b", "foo", "foo a bool", "IN a bool", "Do a not a", "inn a bool", "a", "1", "-", "bool a in",
		"in\ta bool", "in a\tbool", "in a bool\r", "in a bool\t", "\tin a bool", "\t", "\r", "\v", "\f", "\x00", "in a bool\x00", "in\u00a0a bool", "\u0085", "\u2028", "\xff",
		"set a 1\r", "set a\t1", "do x\tnot", "out\ta", "out a\tb c", "do\tx not a",
	} {
		told(t, line, 2, 1)
		told(t, "\n in b bool \n\n"+line+"\nfoo", 2, 4)
	}
}

func TestP18NumbersTold(t *testing.T) {
	for _, c := range []struct {
		word string
		n    int64
		ok   bool
	}{
		{"0", 0, true}, {"1", 1, true}, {"-1", -1, true}, {"10", 10, true}, {"999999", 999999, true},
		{"1000000", 1000000, true}, {"-1000000", -1000000, true}, {"1000001", 0, false}, {"-1000001", 0, false}, {"9999999", 0, false}, {"10000000", 0, false},
		{"-0", 0, false}, {"00", 0, false}, {"01", 0, false}, {"-01", 0, false}, {"0001000000", 0, false}, {"+1", 0, false}, {"+0", 0, false}, {"-", 0, false}, {"--1", 0, false}, {"-+1", 0, false},
		{"9223372036854775807", 0, false}, {"9223372036854775808", 0, false}, {"-9223372036854775808", 0, false}, {"18446744073709551616", 0, false}, {"18446744073709551617", 0, false},
		{strings.Repeat("9", 100), 0, false}, {strings.Repeat("0", 100), 0, false},
		{"1e3", 0, false}, {"1_000", 0, false}, {"0x10", 0, false}, {"0b1", 0, false}, {"1.0", 0, false}, {"1.", 0, false}, {"1a", 0, false}, {"a1", 0, false}, {"1-", 0, false}, {"٣", 0, false}, {"１", 0, false},
	} {
		d, code, _ := impl.ReadDiagram("set a " + c.word)
		if c.ok && (code != 0 || !sameDiagram(d, diagram(fixed("a", 4, c.n)))) || !c.ok && code != 2 {
			t.Error(c.word, d, code)
		}
		reading(t, "set a "+c.word)
	}
	if d, code, _ := impl.ReadDiagram("set a true\nset b false\nset c 1\nset d 0"); code != 0 || !sameDiagram(d, diagram(fixed("a", 3, 1), fixed("b", 3, 0), fixed("c", 4, 1), fixed("d", 4, 0))) {
		t.Error(d, code)
	}
}

func TestP18NamesInTexts(t *testing.T) {
	for _, c := range toldNames() {
		if c.name == "" || strings.ContainsAny(c.name, " \n") {
			continue
		}
		code := int64(3)
		if c.ok {
			code = 0
		}
		for _, text := range []string{"in # bool", "set # 1", "do # lastbool #", "out #\nin # int"} {
			told(t, strings.ReplaceAll(text, "#", c.name), code, flag(!c.ok))
		}
		if !c.ok {
			told(t, "in b bool\ndo x not "+c.name, 8, 2)
		}
	}
}

// faultLines has lines that make one fault each, behind an "in b bool" and an "in
// i int"; the first of them is where it is told. (Of DgTwice the other one stands there.)
func faultLines(code int64) []string {
	switch code {
	case 2:
		return []string{"in f2 float"}
	case 3:
		return []string{"in F3 int"}
	case 4:
		return []string{"set b 4"}
	case 5:
		return []string{"do f5 nand b b"}
	case 6:
		return []string{"do f6 and b"}
	case 8:
		return []string{"do f8 not nobody"}
	case 9:
		return []string{"do f9 not i"}
	case 10:
		return []string{"do f10 not g10", "do g10 not f10"}
	}
	return nil
}

// faultGroup: faults of a lesser one are told ahead of others, whatever their lines.
func faultGroup(code int64) int {
	return map[int64]int{1: 0, 8: 2, 9: 2, 10: 3}[code] + int(flag(code >= 2 && code <= 7))
}

func TestP18EachFaultWithAnother(t *testing.T) {
	codes := []int64{2, 3, 4, 5, 6, 8, 9, 10}
	head := "in b bool\nin i int\n"
	for _, a := range codes {
		first := strings.Join(faultLines(a), "\n") + "\n"
		told(t, head+first, a, 3)
		told(t, head+"\n \nout b\n"+first+"do last not b", a, 6)
		for _, b := range codes {
			if a == b {
				continue
			}
			code, line := a, int64(3)
			if faultGroup(b) < faultGroup(a) {
				code, line = b, int64(3+len(faultLines(a)))
			}
			told(t, head+first+strings.Join(faultLines(b), "\n"), code, line)
		}
		long := head + first
		told(t, long+strings.Repeat(" ", 8000-len(long)), a, 3)
		told(t, long+strings.Repeat(" ", 8001-len(long)), 1, 0)
	}
}

func TestP18FaultsOnOneLine(t *testing.T) {
	head := "in b bool\nin i int\n"
	for _, c := range []struct {
		line string
		code int64
	}{
		{"in B float", 2}, {"set b 01", 2}, {"in b float", 2}, {"out B b", 2},
		{"do B foo b", 3}, {"do B and b", 3}, {"do B not nobody", 3}, {"do B not i", 3}, {"do B lastbool B", 3}, {"out B", 3},
		{"do b foo b", 4}, {"do b and b", 4}, {"do b not nobody", 4}, {"do b not i", 4}, {"do i not i", 4}, {"do b not b", 4},
		{"do x foo", 5}, {"do x foo nobody", 5}, {"do x And b b", 5}, {"do x in b", 5}, {"do x bool b", 5}, {"do x set b", 5}, {"do x out b", 5}, {"do x and\t b b", 5}, {"do x last b", 5},
		{"do x and", 6}, {"do x and b", 6}, {"do x and b b b", 6}, {"do x not", 6}, {"do x not b b", 6}, {"do x pick b i", 6}, {"do x pick b i i i", 6}, {"do x and nobody", 6}, {"do x not i i", 6}, {"do x lastint", 6},
		{"do x and nobody i", 8}, {"do x and i nobody", 8}, {"do x pick i b nobody", 8}, {"do x not X", 8}, {"do x not b\t", 8}, {"do x not and", 8}, {"do x and x nobody", 8}, {"out nobody", 8},
		{"do x and b i", 9}, {"do x and i b", 9}, {"do x pick b b i", 9}, {"do x pick b i b", 9}, {"do x pick i i i", 9}, {"do x lastbool i", 9}, {"do x lastint b", 9}, {"do x count i", 9}, {"do x add x b", 9}, {"do x gt x i", 9},
		{"do x not x", 10}, {"do x and b x", 10}, {"do x add i x", 10}, {"do x pick b i x", 10}, {"do x hold x b", 10}, {"do x rise x", 10},
		{"do x lastbool x", 0}, {"do x lastint x", 0}, {"do x lastint i", 0}, {"do x count b", 0},
	} {
		told(t, head+c.line, c.code, 3*flag(c.code != 0))
		told(t, head+c.line+"\n", c.code, 3*flag(c.code != 0))
		told(t, head+"  "+strings.ReplaceAll(c.line, " ", "   ")+" ", c.code, 3*flag(c.code != 0))
	}
}

func TestP18TwiceTold(t *testing.T) {
	told(t, "in a bool\nin a bool", 4, 2)
	told(t, "in a bool\nset c 1\n\ndo a not a", 4, 4)
	told(t, "out a\nin a bool", 0, 0)
	told(t, "out a\nout a\nin a bool", 4, 2)
	told(t, "in a bool\nout a\nin c bool\nout c\nout a", 4, 5)
	told(t, "out a\nin a bool\nin a int", 4, 3)
	told(t, "out a\nout a", 4, 2)
}

func TestP18LoopLines(t *testing.T) {
	told(t, "in c bool\n\ndo z not c\ndo b not a\ndo a not b", 10, 4)
	told(t, "do a and b c\ndo b not a\ndo c not c", 10, 3)
	told(t, "do w not x\ndo x not y\n\ndo y not x", 10, 2)
	told(t, "do a not b\ndo b not d\n\ndo c not a\ndo d not c\ndo e not f\n\n\ndo f not e\n", 10, 6)
	told(t, "do a lastbool b\ndo b not a", 0, 0)
}

// fullText has n blocks on as many lines.
func fullText(n int) string {
	text := ""
	for i := range n {
		text += "in x" + strconv.Itoa(i) + " bool\n"
	}
	return text
}

func TestP18ManyBlocks(t *testing.T) {
	told(t, fullText(60), 0, 0)
	told(t, fullText(60)+"out x0\nout x59\n", 0, 0)
	told(t, fullText(61), 7, 61)
	told(t, fullText(61)+"out x0\n", 7, 61)
	told(t, "out x0\n"+fullText(61)+"out x0", 7, 62)
	told(t, fullText(100), 7, 61)
	told(t, fullText(59)+"do y not x3\nout y\n", 0, 0)
	for _, line := range []string{"set y 1", "set y true", "in y int", "do y not x0", "do y not nobody", "do y not y", "do y count x1"} {
		told(t, fullText(60)+line, 7, 61)
	}
	for _, c := range []struct {
		line string
		code int64
	}{{"in y float", 2}, {"set Y 1", 3}, {"in x3 int", 4}, {"out Y", 3}, {"do y foo x0", 5}, {"do y and x0", 6}} {
		told(t, fullText(60)+c.line+"\nset y 1", c.code, 61)
		told(t, fullText(60)+"set y 1\n"+c.line, 7, 61)
	}
	told(t, fullText(60)+"out nobody\nset y 1", 7, 62)
	told(t, fullText(60)+"out nobody\n", 8, 61)
	told(t, fullText(59)+"do y count x0\ndo z not y", 7, 61)
	told(t, fullText(58)+"do y count x0\ndo z not y", 9, 60)
	told(t, fullText(58)+"do y count x0\ndo z not y\nin w bool", 7, 61)
	told(t, fullText(59)+"do y not y", 10, 60)
	told(t, fullText(59)+"do y not y\nset z 0", 7, 61)
}

func TestP18LongTexts(t *testing.T) {
	text := "in a bool\nout a\n"
	for _, n := range []int{7999, 8000, 8001, 16000} {
		code := flag(n > 8000)
		told(t, text+strings.Repeat(" ", n-len(text)), code, 0)
		told(t, text+strings.Repeat("\n", n-len(text)), code, 0)
		told(t, strings.Repeat("\n", n-len(text))+text, code, 0)
	}
	told(t, strings.Repeat("x", 8000), 2, 1)
	told(t, strings.Repeat("x", 8001), 1, 0)
	told(t, strings.Repeat("ä", 4000), 2, 1)
	told(t, strings.Repeat("ä", 4001), 1, 0)
	told(t, strings.Repeat("\n", 7999)+"x", 2, 8000)
}

// TestP18SomeTexts makes texts of lines of which many have a fault.
func TestP18SomeTexts(t *testing.T) {
	names := []string{"a", "b", "c", "d", "e", "f"}
	met := make([]int, 11)
	for seed := range int64(6000) {
		picks, text := someNumbers(seed, 200, 0, 1000000), ""
		next := func(most int64) int64 {
			picks = append(picks[1:], picks[0])
			return picks[0] % most
		}
		for range 1 + seed%9 {
			name := names[next(6)]
			switch next(8) {
			case 0:
				text += "in " + name + " bool"
			case 1:
				text += "in " + name + " int"
			case 2:
				text += "set " + name + " " + []string{"true", "false", "7", "-3"}[next(4)]
			case 3:
				text += "out " + name
			case 4:
				text += []string{"", " ", "in A int", "do a foo a", "set b 1000001", "do c and a", "out", "do d pick a b"}[next(8)]
			default:
				row := opRows()[5+next(17)]
				text += "do " + name + "  " + row.word
				for range row.takes {
					text += " " + names[next(6)]
				}
			}
			text += "\n"
		}
		met[reading(t, text)]++
	}
	for code, n := range met {
		if (n < 20) != (code == 1 || code == 7) {
			t.Error("too few of a kind", code, n)
		}
	}
}

// TestP18AnyBytes: whatever the bytes are, the reading ends.
func TestP18AnyBytes(t *testing.T) {
	const letters = "in do set out ab  \n\n01-true\t\xff"
	for seed := range int64(3000) {
		text := []byte{}
		for _, n := range someNumbers(seed, int(seed%40), 0, int64(len(letters)-1)) {
			text = append(text, letters[n])
		}
		reading(t, string(text))
		reading(t, string(someBytes(seed, int(seed%30))))
	}
}

// TestP18AnswersAreNew writes into what was answered and asks again.
func TestP18AnswersAreNew(t *testing.T) {
	text := "in a bool\ndo b and a a\ndo c or b a\nout a\nout c"
	d, _, _ := impl.ReadDiagram(text)
	kept := diagramCopy(d)
	d.Blocks[1].Args[0], d.Outs = 9, append(d.Outs, 8)
	for i := range d.Blocks {
		d.Blocks[i].Args = append(d.Blocks[i].Args, 7)
	}
	if d.Blocks[2].Args[0] != 1 || d.Blocks[2].Args[1] != 0 || d.Outs[0] != 0 || d.Outs[1] != 2 {
		t.Error("two lists share memory", d)
	}
	if e, _, _ := impl.ReadDiagram(text); !sameDiagram(e, kept) {
		t.Error("not the same again", e)
	}
	rows := [][]int64{{1}, {0}, {1}}
	shown, _ := impl.RunDiagram(kept, rows)
	for i := range shown {
		shown[i][0] = 9
		shown[i] = append(shown[i], 5)
	}
	if !sameTable(rows, [][]int64{{1}, {0}, {1}}) || shown[1][1] != 0 || shown[2][1] != 1 {
		t.Error("rows share memory", rows, shown)
	}
	old, ins := []int64{0, 0, 0, 77}[:3], []int64{1, 77}[:1]
	now, _ := impl.Cycle(kept, old, ins)
	now[0] = 9
	if !slices.Equal(old[:4], []int64{0, 0, 0, 77}) || !slices.Equal(ins[:2], []int64{1, 77}) {
		t.Error("written into", old, ins)
	}
	loop := nots([]int64{1}, []int64{0})
	impl.LoopOf(loop)[1] = 5
	impl.OrderOf(kept)[1] = 5
	if !slices.Equal(impl.LoopOf(loop), []int64{0, 1}) || !slices.Equal(impl.OrderOf(kept), []int64{0, 1, 2}) {
		t.Error("kept from a call to another one")
	}
}

// TestP18AtTheSameTime: calls that run side by side do not hinder each other.
func TestP18AtTheSameTime(t *testing.T) {
	text, done := "in a bool\ndo b not a\nout b\n", make(chan bool)
	for range 8 {
		go func() {
			good := true
			for range 100 {
				d, code, _ := impl.ReadDiagram(text)
				_, bad, line := impl.ReadDiagram(text + "foo")
				good = good && code == 0 && bad == 2 && line == 4 && impl.WriteDiagram(d) == text
			}
			done <- good
		}()
	}
	for range 8 {
		if !<-done {
			t.Error("another answer")
		}
	}
}
