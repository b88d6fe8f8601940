package tests

import (
	"math"
	"slices"
	"strconv"
	"strings"
	"testing"

	"loop.example/g00062/impl"
)

func TestP19Constants(t *testing.T) {
	ops := []int64{impl.IcNow, impl.IcOld, impl.IcNum, impl.IcIn, impl.IcDo, impl.IcKeep}
	if !slices.Equal(ops, []int64{1, 2, 3, 4, 5, 6}) {
		t.Error("an Op", ops)
	}
	if impl.MaxCode != 500 || impl.MaxRows != 300 || impl.MaxBlocks != 60 {
		t.Error("a limit")
	}
}

func instr(op int64, n int64) impl.Instr {
	return impl.Instr{Op: op, N: n}
}

// codeOf reads words such as "now3", "old3", "num-7", "in0", "do8", "keep3".
func codeOf(text string) []impl.Instr {
	code := []impl.Instr{}
	for _, word := range strings.Fields(text) {
		for op, begin := range []string{"", "now", "old", "num", "in", "do", "keep"} {
			rest, ok := strings.CutPrefix(word, begin)
			if n, err := strconv.ParseInt(rest, 10, 64); op > 0 && ok && err == nil {
				code = append(code, instr(int64(op), n))
			}
		}
	}
	return code
}

func layNumbers(n int) string {
	return strings.Repeat("num1 ", n)
}

// drops takes n from the stack, of which it lays the last one in the cell.
func drops(n int, cell string) string {
	return strings.Repeat("do9 ", n-1) + "keep" + cell + " "
}

// layingText is how the chapter words the laying of a block: # stands for its own
// place, a and b for its Args, v for its Value, k for its number among what comes in.
func layingText(op int64) string {
	switch op {
	case 1, 2:
		return "in k"
	case 3, 4:
		return "num v"
	case 8:
		return "now a do 8"
	case 16:
		return "now a now b now c do 16"
	case 17:
		return "old # now b do 8 do 5 now a do 6"
	case 18:
		return "now a old # num 1 do 9 num 0 do 16"
	case 19:
		return "now a old a do 8 do 5"
	case 20, 21:
		return "old a"
	}
	return "now a now b do " + strconv.Itoa(int(op))
}

func wantLaying(d impl.Diagram, place int64) string {
	b := d.Blocks[place]
	came := int64(0)
	for _, c := range d.Blocks[:place] {
		came += flag(c.Op == 1 || c.Op == 2)
	}
	text := ""
	for i, word := range strings.Fields(layingText(b.Op)) {
		if i%2 == 0 {
			text += word
			continue
		}
		switch word {
		case "a", "b", "c":
			word = strconv.FormatInt(b.Args[word[0]-'a'], 10)
		case "#":
			word = strconv.FormatInt(place, 10)
		case "v":
			word = strconv.FormatInt(b.Value, 10)
		case "k":
			word = strconv.FormatInt(came, 10)
		}
		text += word + " "
	}
	return text + "keep" + strconv.FormatInt(place, 10)
}

// wantedOf are the places to which a way by Args leads from one of Outs.
func wantedOf(d impl.Diagram) []int64 {
	met := slices.Clone(d.Outs)
	for long := -1; long != len(met); {
		long = len(met)
		for _, m := range slices.Clone(met) {
			for _, a := range d.Blocks[m].Args {
				if !slices.Contains(met, a) {
					met = append(met, a)
				}
			}
		}
	}
	return met
}

func wantCode(d impl.Diagram) []impl.Instr {
	order, right := wantOrderOf(d)
	code := []impl.Instr{}
	if !right {
		return code
	}
	wanted := wantedOf(d)
	for _, place := range order {
		if slices.Contains(wanted, place) {
			code = append(code, codeOf(wantLaying(d, place))...)
		}
	}
	return code
}

func takenBy(op int64) int {
	return len(opRows()[op].takes)
}

// wantCodeOk goes through the code once for each thing that is asked.
func wantCodeOk(code []impl.Instr, cells int64, ins int64) bool {
	if len(code) > 500 || cells < 0 || cells > 60 || ins < 0 || ins > 60 {
		return false
	}
	lows := []int64{0, 0, 0, -1000000, 0, 5, 0}
	highs := []int64{0, cells - 1, cells - 1, 1000000, ins - 1, 16, cells - 1}
	for _, i := range code {
		if i.Op < 1 || i.Op > 6 || i.N < lows[i.Op] || i.N > highs[i.Op] {
			return false
		}
	}
	for at, i := range code {
		kept := slices.Contains(code[:at], instr(6, i.N))
		if i.Op == 6 && kept || i.Op == 1 && !kept {
			return false
		}
	}
	height := 0
	for _, i := range code {
		switch i.Op {
		case 5:
			height -= takenBy(i.N)
		case 6:
			height--
		}
		if height < 0 {
			return false
		}
		height += int(flag(i.Op != 6))
		if height > 10 {
			return false
		}
	}
	return height == 0
}

// wantDone tells what an op gives of any numbers.
func wantDone(op int64, args []int64) int64 {
	switch op {
	case 5:
		return cutAt(args[0] * args[1])
	case 6, 12:
		return slices.Max(args)
	case 7:
		return 1 - flag(args[0] == args[1])
	case 8:
		return cutAt(1 - args[0])
	case 9:
		return cutAt(args[0] + args[1])
	case 10:
		return cutAt(args[0] - args[1])
	case 11:
		return slices.Min(args)
	case 13:
		return flag(args[1] < args[0])
	case 14:
		return flag(args[1] <= args[0])
	case 15:
		return flag(args[1] == args[0])
	}
	if args[0] != 1 {
		return args[2]
	}
	return args[1]
}

// wantExec keeps the stack with its top ahead.
func wantExec(code []impl.Instr, old []int64, ins []int64) ([]int64, bool) {
	if !wantCodeOk(code, int64(len(old)), int64(len(ins))) {
		return nil, false
	}
	for _, n := range slices.Concat(old, ins) {
		if !wantValue("i", n) {
			return nil, false
		}
	}
	now, pile := make([]int64, len(old)), []int64{}
	for _, i := range code {
		switch i.Op {
		case 1:
			pile = slices.Insert(pile, 0, now[i.N])
		case 2:
			pile = slices.Insert(pile, 0, old[i.N])
		case 3:
			pile = slices.Insert(pile, 0, i.N)
		case 4:
			pile = slices.Insert(pile, 0, ins[i.N])
		case 5:
			args := slices.Clone(pile[:takenBy(i.N)])
			slices.Reverse(args)
			pile = slices.Replace(pile, 0, len(args), wantDone(i.N, args))
		case 6:
			now[i.N], pile = pile[0], pile[1:]
		}
	}
	return now, true
}

func wantRunCode(code []impl.Instr, cells int64, outs []int64, rows [][]int64) ([][]int64, bool) {
	if cells < 0 || cells > 60 || len(rows) > 300 || len(outs) > 60 {
		return nil, false
	}
	for _, o := range outs {
		if o < 0 || o >= cells {
			return nil, false
		}
	}
	now, shown := make([]int64, cells), [][]int64{}
	for _, row := range rows {
		next, ok := wantExec(code, now, row)
		if !ok {
			return nil, false
		}
		line := []int64{}
		for _, o := range outs {
			line = append(line, next[o])
		}
		now, shown = next, append(shown, line)
	}
	return shown, true
}

// wantOverruns tries all lists of Outs, the shortest first, of as short ones the least first.
func wantOverruns(d impl.Diagram, most int64) []int64 {
	if _, right := wantOrderOf(d); !right || most < 0 || len(d.Outs) > 10 {
		return nil
	}
	for long := 1; long <= len(d.Outs); long++ {
		if found := overrunBehind(d, nil, d.Outs, long, most); found != nil {
			return found
		}
	}
	return nil
}

func overrunBehind(d impl.Diagram, some []int64, rest []int64, long int, most int64) []int64 {
	if len(some) == long {
		if int64(len(wantCode(showing(d, some...)))) > most {
			return some
		}
		return nil
	}
	for i, place := range rest {
		if found := overrunBehind(d, append(slices.Clone(some), place), rest[i+1:], long, most); found != nil {
			return found
		}
	}
	return nil
}

func wantSensitive(d impl.Diagram, rows [][]int64, stuck int64) []int64 {
	shown, ok := wantShown(d, rows)
	if !ok {
		return nil
	}
	list, kinds := []int64{}, ""
	for _, b := range d.Blocks {
		if b.Op <= 2 {
			kinds += giftOf(b)
		}
	}
	for k, kind := range kinds {
		value := cutAt(stuck)
		if kind == 'b' && stuck != 0 {
			value = 1
		}
		other := rowsCopyOf(rows)
		for _, row := range other {
			row[k] = value
		}
		if changed, _ := wantShown(d, other); !sameTable(shown, changed) {
			list = append(list, int64(k))
		}
	}
	return list
}

func rowsCopyOf(rows [][]int64) [][]int64 {
	copied := [][]int64{}
	for _, row := range rows {
		copied = append(copied, slices.Clone(row))
	}
	return copied
}

// compiled holds the code of a diagram against what is wanted, and runs it.
func compiled(t *testing.T, d impl.Diagram, rows [][]int64) []impl.Instr {
	t.Helper()
	kept := diagramCopy(d)
	code := impl.Compile(d)
	if want := wantCode(d); !slices.Equal(code, want) {
		t.Error(d, code, want)
	}
	if !sameDiagram(d, kept) {
		t.Error("written into", d)
	}
	shown, right := impl.RunDiagram(d, rows)
	if !right {
		return code
	}
	again, ok := impl.RunCode(code, int64(len(d.Blocks)), d.Outs, rows)
	if !ok || !sameTable(shown, again) {
		t.Error("not what the diagram shows", d, shown, again, ok)
	}
	return code
}

func maySame(t *testing.T, code []impl.Instr, cells int64, ins int64) bool {
	t.Helper()
	kept := slices.Clone(code)
	ok := impl.CodeOk(code, cells, ins)
	if want := wantCodeOk(code, cells, ins); ok != want {
		t.Error(code, cells, ins, ok, want)
	}
	if !slices.Equal(code, kept) {
		t.Error("written into", code)
	}
	return ok
}

func executed(t *testing.T, code []impl.Instr, old []int64, ins []int64) ([]int64, bool) {
	t.Helper()
	kept, keptOld, keptIns := slices.Clone(code), slices.Clone(old), slices.Clone(ins)
	now, ok := impl.Exec(code, old, ins)
	if want, may := wantExec(code, old, ins); !slices.Equal(now, want) || ok != may {
		t.Error(code, old, ins, now, ok, want, may)
	}
	if !slices.Equal(code, kept) || !slices.Equal(old, keptOld) || !slices.Equal(ins, keptIns) {
		t.Error("written into", code, old, ins)
	}
	return now, ok
}

func codeRuns(t *testing.T, code []impl.Instr, cells int64, outs []int64, rows [][]int64) ([][]int64, bool) {
	t.Helper()
	kept, keptOuts, keptRows := slices.Clone(code), slices.Clone(outs), rowsCopyOf(rows)
	shown, ok := impl.RunCode(code, cells, outs, rows)
	if want, may := wantRunCode(code, cells, outs, rows); !sameTable(shown, want) || ok != may {
		t.Error(code, cells, outs, rows, shown, ok, want, may)
	}
	if !slices.Equal(code, kept) || !slices.Equal(outs, keptOuts) || !sameTable(rows, keptRows) {
		t.Error("written into", code, outs, rows)
	}
	return shown, ok
}

func overruns(t *testing.T, d impl.Diagram, most int64) []int64 {
	t.Helper()
	kept := diagramCopy(d)
	list := impl.Overruns(d, most)
	if want := wantOverruns(d, most); !slices.Equal(list, want) {
		t.Error(d, most, list, want)
	}
	if !sameDiagram(d, kept) {
		t.Error("written into", d)
	}
	return list
}

func sensitive(t *testing.T, d impl.Diagram, rows [][]int64, stuck int64) []int64 {
	t.Helper()
	kept, keptRows := diagramCopy(d), rowsCopyOf(rows)
	list := impl.Sensitive(d, rows, stuck)
	if want := wantSensitive(d, rows, stuck); !slices.Equal(list, want) {
		t.Error(d, rows, stuck, list, want)
	}
	if !sameDiagram(d, kept) || !sameTable(rows, keptRows) {
		t.Error("written into", d, rows)
	}
	return list
}

func TestP19CompileTold(t *testing.T) {
	two := []impl.Block{block("a", 1), block("b", 1), block("i", 2), block("j", 2)}
	one := func(op int64, args ...int64) impl.Diagram {
		return showing(diagram(append(slices.Clone(two), block("x", op, args...))...), 4)
	}
	bools, ints := "in0 keep0 in1 keep1 ", "in2 keep2 in3 keep3 "
	for _, c := range []struct {
		d    impl.Diagram
		code string
	}{
		{showing(diagram(two...), 0, 3), "in0 keep0 in3 keep3"},
		{showing(diagram(fixed("a", 3, 1), fixed("b", 4, -1000000)), 0, 1), "num1 keep0 num-1000000 keep1"},
		{one(5, 0, 1), bools + "now0 now1 do5 keep4"},
		{one(6, 1, 0), bools + "now1 now0 do6 keep4"},
		{one(7, 0, 0), "in0 keep0 now0 now0 do7 keep4"},
		{one(8, 1), "in1 keep1 now1 do8 keep4"},
		{one(9, 2, 3), ints + "now2 now3 do9 keep4"},
		{one(10, 3, 2), ints + "now3 now2 do10 keep4"},
		{one(11, 3, 3), "in3 keep3 now3 now3 do11 keep4"},
		{one(12, 2, 3), ints + "now2 now3 do12 keep4"},
		{one(13, 2, 3), ints + "now2 now3 do13 keep4"},
		{one(14, 3, 2), ints + "now3 now2 do14 keep4"},
		{one(15, 2, 3), ints + "now2 now3 do15 keep4"},
		{one(16, 1, 3, 2), "in1 keep1 " + ints + "now1 now3 now2 do16 keep4"},
		{one(17, 0, 1), bools + "old4 now1 do8 do5 now0 do6 keep4"},
		{one(17, 1, 1), "in1 keep1 old4 now1 do8 do5 now1 do6 keep4"},
		{one(18, 1), "in1 keep1 now1 old4 num1 do9 num0 do16 keep4"},
		{one(19, 1), "in1 keep1 now1 old1 do8 do5 keep4"},
		{one(20, 1), "in1 keep1 old1 keep4"},
		{one(21, 3), "in3 keep3 old3 keep4"},
	} {
		if code := compiled(t, c.d, rowsFor(c.d, 5, 20)); !slices.Equal(code, codeOf(c.code)) {
			t.Error(c.d, code, c.code)
		}
	}
}

func TestP19CompileWanted(t *testing.T) {
	// x counts y of the cycle ahead, by way of z alone; w is wanted by nothing.
	d := diagram(block("x", 18, 2), block("w", 8, 3), block("z", 20, 3), block("y", 1), block("i", 2))
	for _, c := range []struct {
		d    impl.Diagram
		code string
	}{
		{showing(d), ""},
		{impl.Diagram{}, ""},
		{showing(d, 3), "in0 keep3"},
		{showing(d, 4), "in1 keep4"},
		{showing(d, 0), "old3 keep2 now2 old0 num1 do9 num0 do16 keep0 in0 keep3"},
		{showing(d, 2), "old3 keep2 in0 keep3"},
		{showing(d, 0, 1, 2, 3, 4), "old3 keep2 now2 old0 num1 do9 num0 do16 keep0 in0 keep3 now3 do8 keep1 in1 keep4"},
		{showing(diagram(block("a", 20, 0)), 0), "old0 keep0"},
		{showing(diagram(block("a", 21, 1), block("b", 21, 0), block("c", 2)), 1), "old1 keep0 old0 keep1"},
		{showing(diagram(block("c", 2), block("a", 21, 2), block("b", 9, 0, 1)), 1), "in0 keep0 old2 keep1 now0 now1 do9 keep2"},
	} {
		if code := compiled(t, c.d, rowsFor(c.d, 7, 12)); !slices.Equal(code, codeOf(c.code)) {
			t.Error(c.d, code, c.code)
		}
	}
}

func TestP19CompileWrong(t *testing.T) {
	for i, d := range []impl.Diagram{
		showing(nots([]int64{1}, []int64{0}), 0),
		showing(nots([]int64{0}), 0),
		showing(diagram(block("a", 1)), 1),
		showing(diagram(block("A", 1)), 0),
		showing(diagram(block("a", 1), block("a", 1)), 0),
		showing(diagram(block("a", 0)), 0),
		showing(diagram(block("a", 22)), 0),
		showing(diagram(block("a", 1), block("b", 5, 0)), 0),
		showing(diagram(block("a", 2), block("b", 8, 0)), 0),
		showing(diagram(block("a", 1), block("b", 8, 1)), 0),
		manyBlocks(61),
	} {
		if code := compiled(t, d, nil); len(code) != 0 {
			t.Error(i, code)
		}
		if list := overruns(t, d, 0); len(list) != 0 {
			t.Error(i, list)
		}
		if list := sensitive(t, d, nil, 1); len(list) != 0 {
			t.Error(i, list)
		}
	}
}

// TestP19Compiled: code gives what the diagram gives, at every cycle and in every
// cell that is kept, and its stack is empty at the end.
func TestP19Compiled(t *testing.T) {
	longest := 0
	for seed := range int64(250) {
		d := someDiagram(seed, 4+int(seed*11%57), seed%2 == 0)
		rows := rowsFor(d, seed, 15)
		code := compiled(t, d, rows)
		if !impl.DiagramOk(d) {
			continue
		}
		longest = max(longest, len(code))
		ins := int64(0)
		for _, b := range d.Blocks {
			ins += flag(b.Op <= 2)
		}
		if !maySame(t, code, int64(len(d.Blocks)), ins) {
			t.Error("may not be run", d, code)
		}
		cyclesAlike(t, d, code, rows)
	}
	if longest < 120 {
		t.Error("only short code", longest)
	}
}

func cyclesAlike(t *testing.T, d impl.Diagram, code []impl.Instr, rows [][]int64) {
	t.Helper()
	old, cells, wanted := make([]int64, len(d.Blocks)), make([]int64, len(d.Blocks)), wantedOf(d)
	for i, row := range rows {
		now, _ := impl.Cycle(d, old, row)
		next, ok := executed(t, code, cells, row)
		if !ok {
			t.Fatal(d, i)
		}
		for place := range d.Blocks {
			kept := slices.Contains(wanted, int64(place))
			if kept && now[place] != next[place] || !kept && next[place] != 0 {
				t.Fatal(d, i, place, now, next)
			}
		}
		old, cells = now, next
	}
}

// TestP19LongestCode: 60 blocks with the longest instructions are no more than 500.
func TestP19LongestCode(t *testing.T) {
	blocks := []impl.Block{block("in", 1)}
	for i := 1; i < 60; i++ {
		if i%2 == 0 {
			blocks = append(blocks, block("x"+strconv.Itoa(i), 17, 0, 0))
		} else {
			blocks = append(blocks, block("x"+strconv.Itoa(i), 18, 0))
		}
	}
	d := diagram(blocks...)
	for i := range blocks {
		d.Outs = append(d.Outs, int64(i))
	}
	rows := [][]int64{}
	for _, n := range someNumbers(3, 300, 0, 1) {
		rows = append(rows, []int64{n})
	}
	code := compiled(t, d, rows)
	if len(code) != 2+59*7 || !maySame(t, code, 60, 1) {
		t.Error(len(code))
	}
}

// TestP19CountsToTheLimit: a count at MaxNumber stays there in both.
func TestP19CountsToTheLimit(t *testing.T) {
	d := showing(diagram(block("a", 1), block("n", 18, 0)), 1)
	code := impl.Compile(d)
	for _, n := range []int64{0, 999998, 999999, 1000000} {
		now, ok := impl.Cycle(d, []int64{1, n}, []int64{1})
		next, may := executed(t, code, []int64{1, n}, []int64{1})
		if !ok || !may || !slices.Equal(now, next) || next[1] != min(n+1, 1000000) {
			t.Error(n, now, next)
		}
	}
}

func TestP19CodeSizes(t *testing.T) {
	for _, c := range []struct {
		code       string
		cells, ins int64
		ok         bool
	}{
		{"", 0, 0, true}, {"", 60, 60, true}, {"", 61, 0, false}, {"", 0, 61, false}, {"", -1, 0, false}, {"", 0, -1, false},
		{"", math.MaxInt64, 0, false}, {"", math.MinInt64, 0, false}, {"", 0, math.MaxInt64, false}, {"", 0, math.MinInt64, false},
		{"num0 keep0", 1, 0, true}, {"num0 keep0", 0, 0, false}, {"num0 keep0", 60, 0, true}, {"num0 keep0", 61, 0, false}, {"num0 keep0", -1, 0, false},
		{"in0 keep0", 1, 1, true}, {"in0 keep0", 1, 0, false}, {"in0 keep0", 1, 60, true}, {"in0 keep0", 1, 61, false}, {"in0 keep0", 1, -1, false},
		{"num1 " + strings.Repeat("do8 ", 497) + "keep0", 1, 0, true},
		{"num1 " + strings.Repeat("do8 ", 498) + "keep0", 1, 0, true},
		{"num1 " + strings.Repeat("do8 ", 499) + "keep0", 1, 0, false},
	} {
		if ok := maySame(t, codeOf(c.code), c.cells, c.ins); ok != c.ok {
			t.Error(len(codeOf(c.code)), c.cells, c.ins, ok)
		}
	}
}

// TestP19CodeBounds lays and takes such that N alone, or Op, can be wrong.
func TestP19CodeBounds(t *testing.T) {
	for _, c := range []struct {
		ahead  string
		i      impl.Instr
		behind string
		ok     bool
	}{
		{"num4 keep2 ", instr(1, 2), "keep0", true}, {"num4 keep2 ", instr(1, 3), "keep0", false}, {"num4 keep2 ", instr(1, -1), "keep0", false},
		{"num4 keep0 ", instr(1, 0), "keep1", true}, {"num4 keep0 ", instr(1, 1), "keep1", false}, {"num4 keep0 ", instr(1, math.MaxInt64), "keep1", false},
		{"", instr(2, 0), "keep0", true}, {"", instr(2, 2), "keep0", true}, {"", instr(2, 3), "keep0", false}, {"", instr(2, -1), "keep0", false}, {"", instr(2, math.MinInt64), "keep0", false},
		{"", instr(3, 1000000), "keep0", true}, {"", instr(3, 1000001), "keep0", false}, {"", instr(3, -1000000), "keep0", true}, {"", instr(3, -1000001), "keep0", false},
		{"", instr(3, math.MaxInt64), "keep0", false}, {"", instr(3, math.MinInt64), "keep0", false},
		{"", instr(4, 0), "keep0", true}, {"", instr(4, 3), "keep0", true}, {"", instr(4, 4), "keep0", false}, {"", instr(4, -1), "keep0", false},
		{"num1 num1 ", instr(5, 5), "keep0", true}, {"num1 ", instr(5, 4), "keep0", false}, {"", instr(5, 4), "keep0", false}, {"", instr(5, 3), "keep0", false}, {"", instr(5, 1), "keep0", false},
		{"num1 num1 num1 ", instr(5, 16), "keep0", true}, {"num1 num1 ", instr(5, 17), "keep0", false}, {"num1 ", instr(5, 18), "keep0", false},
		{"num1 ", instr(5, 19), "keep0", false}, {"num1 ", instr(5, 20), "keep0", false}, {"num1 ", instr(5, 21), "keep0", false}, {"num1 ", instr(5, 22), "keep0", false},
		{"num1 ", instr(5, 0), "keep0", false}, {"num1 ", instr(5, -1), "keep0", false}, {"num1 ", instr(5, math.MaxInt64), "keep0", false}, {"num1 ", instr(5, math.MinInt64), "keep0", false},
		{"num1 ", instr(6, 0), "", true}, {"num1 ", instr(6, 2), "", true}, {"num1 ", instr(6, 3), "", false}, {"num1 ", instr(6, -1), "", false},
		{"", instr(0, 0), "", false}, {"num1 ", instr(0, 0), "keep0", false}, {"", instr(7, 0), "", false}, {"num1 ", instr(7, 0), "", false}, {"", instr(7, 0), "keep0", false},
		{"", instr(-1, 0), "", false}, {"", instr(8, 0), "", false}, {"", instr(math.MinInt64, 0), "", false}, {"", instr(math.MaxInt64, 0), "", false},
	} {
		code := slices.Concat(codeOf(c.ahead), []impl.Instr{c.i}, codeOf(c.behind))
		if ok := maySame(t, code, 3, 4); ok != c.ok {
			t.Error(code, ok)
		}
		if _, ok := executed(t, code, []int64{1, 2, 3}, []int64{4, 5, 6, 7}); ok != c.ok {
			t.Error(code, ok)
		}
	}
}

func TestP19CodeStack(t *testing.T) {
	for _, c := range []struct {
		code string
		ok   bool
	}{
		{"keep0", false}, {"num1 keep0 keep1", false}, {"do8 keep0", false}, {"do5 keep0", false}, {"num1 do5 keep0", false}, {"num1 do16 keep0", false}, {"num1 num1 do16 keep0", false},
		{"keep0 num1", false}, {"num1 keep0 keep1 num1", false}, {"do8", false}, {"do8 keep0 num1", false}, {"do5 num1", false}, {"num1 do5", false}, {"do16 num1 num1", false}, {"num1 num1 do16", false}, {"num1 do16 num1", false},
		{"num1", false}, {"num1 num1 keep0", false}, {"num1 keep0 old1", false}, {"num1 num1 num1 num1 do16", false},
		{layNumbers(10) + drops(10, "0"), true}, {layNumbers(11) + drops(11, "0"), false}, {layNumbers(9) + drops(9, "0"), true},
		{layNumbers(10) + "do9 num1 do9 num1 " + drops(10, "0"), true}, {layNumbers(10) + "do9 num1 num1 " + drops(11, "0"), false},
		{layNumbers(10) + "do16 num1 num1 num1 " + drops(11, "0"), false}, {layNumbers(10) + "do16 num1 num1 " + drops(10, "0"), true},
		{layNumbers(10) + "do8 " + drops(10, "0"), true}, {layNumbers(10) + "in0 " + drops(11, "0"), false}, {layNumbers(10) + "old0 " + drops(11, "0"), false},
		{"num1 keep1 " + layNumbers(10) + "now1 " + drops(11, "0"), false}, {"num1 keep1 " + layNumbers(9) + "now1 " + drops(10, "0"), true},
		{layNumbers(10) + "keep1 num1 " + drops(10, "0"), true},
		{"num1 keep0 num1 keep0", false}, {"num1 num2 keep0 keep0", false}, {"num1 keep0 num1 keep1", true}, {"num1 keep1 num1 keep0 num1 keep1", false},
		{"now0 keep0", false}, {"num1 keep0 now0 keep1", true}, {"num1 keep0 now1 keep1", false}, {"now1 keep0 num1 keep1", false}, {"num1 now0 keep0 keep1", false},
		{"old0 keep0", true}, {"num1 keep0 now0 now0 do9 keep1", true},
	} {
		if ok := maySame(t, codeOf(c.code), 2, 1); ok != c.ok {
			t.Error(c.code, ok)
		}
		if now, ok := executed(t, codeOf(c.code), []int64{8, 9}, []int64{7}); ok != c.ok || !ok && len(now) != 0 {
			t.Error(c.code, now, ok)
		}
	}
}

// someCode is often one that may be run.
func someCode(seed int64, n int, cells int64, ins int64) []impl.Instr {
	picks, code := someNumbers(seed, 4*n+40, 0, 1000000), []impl.Instr{}
	next := func(most int64) int64 {
		picks = append(picks[1:], picks[0])
		return picks[0] % most
	}
	height, cell := 0, int64(0)
	for range n {
		if height >= 3 && next(2) == 0 {
			op := 5 + next(12)
			code, height = append(code, instr(5, op)), height+1-takenBy(op)
		} else if height >= 1 && cell < cells && next(3) == 0 {
			code, height, cell = append(code, instr(6, cell)), height-1, cell+1
		} else if cell > 0 && next(2) == 0 {
			code, height = append(code, instr(1, next(cell))), height+1
		} else {
			bounds := []int64{cells, 2000001, ins}
			kind := next(3)
			code, height = append(code, instr(2+kind, next(bounds[kind])-kind%2*1000000)), height+1
		}
	}
	for ; height > 1; height-- {
		code = append(code, instr(5, 5+next(3)))
	}
	for ; height > 0; height-- {
		code = append(code, instr(6, cell))
	}
	return code
}

func TestP19SomeCode(t *testing.T) {
	run := 0
	for seed := range int64(4000) {
		code := someCode(seed, int(seed%40), 5, 3)
		if seed%5 == 0 && len(code) > 0 {
			pick := someNumbers(seed, 3, 0, 1000)
			code[pick[0]%int64(len(code))] = instr(pick[1]%9-1, pick[2]%19-1)
		}
		maySame(t, code, 5, 3)
		maySame(t, code, 4, 3)
		maySame(t, code, 5, 2)
		old, ins := someNumbers(seed+1, 5, -3, 3), someNumbers(seed+2, 3, -1000000, 1000000)
		if _, ok := executed(t, code, old, ins); ok {
			run++
		}
		codeRuns(t, code, 5, []int64{0, 1, 4}, [][]int64{ins, {1, 0, 1}, {0, 0, -1000000}})
	}
	if run < 1000 || run > 3500 {
		t.Error("of one kind", run)
	}
}

func TestP19ExecTold(t *testing.T) {
	for _, c := range []struct {
		code string
		now  int64
	}{
		{"num1000 num1000 do5", 1000000}, {"num1000 num1001 do5", 1000000}, {"num-1000 num1000 do5", -1000000}, {"num-1001 num1000 do5", -1000000},
		{"num1000000 num1000000 do5", 1000000}, {"num-1000000 num1000000 do5", -1000000}, {"num-1000000 num-1000000 do5", 1000000},
		{"num999 num1001 do5", 999999}, {"num-7 num6 do5", -42}, {"num0 num1000000 do5", 0},
		{"num-3 num2 do6", 2}, {"num5 num-9 do6", 5}, {"num-4 num-9 do6", -4}, {"num1 num1 do6", 1}, {"num0 num1 do6", 1}, {"num0 num0 do6", 0},
		{"num0 num0 do7", 0}, {"num1 num0 do7", 1}, {"num0 num1 do7", 1}, {"num1 num1 do7", 0}, {"num5 num5 do7", 0},
		{"num0 do8", 1}, {"num1 do8", 0}, {"num2 do8", -1}, {"num-1 do8", 2}, {"num1000000 do8", -999999}, {"num-999999 do8", 1000000}, {"num-1000000 do8", 1000000},
		{"num600000 num400000 do9", 1000000}, {"num600000 num400001 do9", 1000000}, {"num-600000 num-400001 do9", -1000000}, {"num600000 num399999 do9", 999999},
		{"num-1000000 num-1000000 do9", -1000000}, {"num1000000 num1000000 do9", 1000000},
		{"num600000 num-400001 do10", 1000000}, {"num-600000 num400001 do10", -1000000}, {"num7 num10 do10", -3}, {"num10 num7 do10", 3}, {"num-1000000 num1000000 do10", -1000000},
		{"num7 num-8 do11", -8}, {"num7 num-8 do12", 7}, {"num7 num8 do11", 7}, {"num7 num8 do12", 8},
		{"num7 num8 do13", 0}, {"num8 num7 do13", 1}, {"num8 num8 do13", 0}, {"num7 num8 do14", 0}, {"num8 num7 do14", 1}, {"num8 num8 do14", 1},
		{"num7 num8 do15", 0}, {"num8 num7 do15", 0}, {"num8 num8 do15", 1},
		{"num1 num7 num8 do16", 7}, {"num0 num7 num8 do16", 8}, {"num2 num7 num8 do16", 8}, {"num-1 num7 num8 do16", 8}, {"num1000000 num7 num8 do16", 8},
		{"old0", 1000000}, {"old1", -1000000}, {"in0", -1000000}, {"in1", 1000000}, {"old0 old0 do9 in0 do9", 0}, {"num-1000000", -1000000},
	} {
		now, ok := executed(t, codeOf(c.code+" keep2"), []int64{1000000, -1000000, 5}, []int64{-1000000, 1000000})
		if !ok || !slices.Equal(now, []int64{0, 0, c.now}) {
			t.Error(c.code, now, ok)
		}
	}
}

// TestP19ExecOps: what an op gives of bools is what its block gives, of any numbers what is wanted.
func TestP19ExecOps(t *testing.T) {
	numbers := []int64{-1000000, -999999, -1001, -2, -1, 0, 1, 2, 3, 1000, 999999, 1000000}
	for op := int64(5); op <= 16; op++ {
		n := takenBy(op)
		code := []impl.Instr{}
		for i := range n {
			code = append(code, instr(4, int64(i)))
		}
		code = append(code, instr(5, op), instr(6, 0))
		allSays(n, int64(len(numbers)), func(picks []int64) {
			args := []int64{}
			for _, p := range picks {
				args = append(args, numbers[p])
			}
			now, ok := executed(t, code, []int64{0}, args)
			if !ok || now[0] != wantDone(op, args) {
				t.Error(op, args, now, ok)
			}
		})
	}
}

func TestP19ExecNumbers(t *testing.T) {
	code := codeOf("num1 keep0")
	for _, n := range []int64{-1000000, 1000000, 0, -1000001, 1000001, math.MinInt64, math.MaxInt64} {
		fine := n >= -1000000 && n <= 1000000
		if _, ok := executed(t, code, []int64{0, n}, []int64{0}); ok != fine {
			t.Error("old", n, ok)
		}
		if _, ok := executed(t, code, []int64{n}, nil); ok != fine {
			t.Error("old alone", n, ok)
		}
		if _, ok := executed(t, code, []int64{0}, []int64{0, n}); ok != fine {
			t.Error("ins", n, ok)
		}
	}
	for n := range 63 {
		_, ok := executed(t, nil, make([]int64, n), nil)
		_, may := executed(t, nil, nil, make([]int64, n))
		if ok != (n <= 60) || may != (n <= 60) {
			t.Error(n, ok, may)
		}
	}
	if now, ok := executed(t, nil, []int64{4, 5}, []int64{6}); !ok || !slices.Equal(now, []int64{0, 0}) {
		t.Error("a cell that is never kept is 0", now, ok)
	}
	if now, ok := executed(t, nil, nil, nil); !ok || len(now) != 0 {
		t.Error(now, ok)
	}
}

func TestP19RunCodeTold(t *testing.T) {
	// Cell 1 is the sum of all that came in, cell 0 the one of the cycle ahead; cell 2 is never kept.
	code := codeOf("old1 in0 do9 keep1 old1 keep0")
	rows := [][]int64{{5}, {7}, {-20}, {1000000}, {1000000}}
	shown, ok := codeRuns(t, code, 3, []int64{1, 0, 1, 2}, rows)
	want := [][]int64{{5, 0, 5, 0}, {12, 5, 12, 0}, {-8, 12, -8, 0}, {999992, -8, 999992, 0}, {1000000, 999992, 1000000, 0}}
	if !ok || !sameTable(shown, want) {
		t.Error(shown, ok)
	}
	if shown, ok := codeRuns(t, code, 3, nil, rows); !ok || !sameTable(shown, [][]int64{{}, {}, {}, {}, {}}) {
		t.Error("no outs", shown, ok)
	}
	// More may come in than is asked for.
	if shown, ok := codeRuns(t, code, 2, []int64{1}, [][]int64{{5}, {6, 1000000}, make([]int64, 60)}); !ok || !sameTable(shown, [][]int64{{5}, {11}, {11}}) {
		t.Error(shown, ok)
	}
}

func TestP19RunCodeWrong(t *testing.T) {
	code := codeOf("in0 keep0")
	row := []int64{1}
	for _, c := range []struct {
		name  string
		code  []impl.Instr
		cells int64
		outs  []int64
		rows  [][]int64
		ok    bool
	}{
		{"right", code, 1, []int64{0}, [][]int64{row, row}, true},
		{"cells -1", nil, -1, nil, nil, false}, {"cells 0", nil, 0, nil, nil, true}, {"cells 60", nil, 60, nil, nil, true}, {"cells 61", nil, 61, nil, nil, false},
		{"cells 0 with a row", nil, 0, nil, [][]int64{nil}, true}, {"cells 60 with a row", code, 60, []int64{59}, [][]int64{row}, true}, {"cells 61 with a row", code, 61, []int64{0}, [][]int64{row}, false},
		{"too few cells", code, 0, nil, [][]int64{row}, false}, {"cells far off", nil, math.MinInt64, nil, nil, false}, {"cells too many by far", nil, math.MaxInt64, nil, nil, false},
		{"no rows", code, 1, []int64{0}, nil, true}, {"300 rows", code, 1, []int64{0}, slices.Repeat([][]int64{row}, 300), true}, {"301 rows", code, 1, []int64{0}, slices.Repeat([][]int64{row}, 301), false},
		{"no rows, so no Exec", codeOf("keep0"), 1, []int64{0}, nil, true}, {"one row", codeOf("keep0"), 1, []int64{0}, [][]int64{row}, false},
		{"60 outs", code, 1, make([]int64, 60), [][]int64{row}, true}, {"61 outs", code, 1, make([]int64, 61), [][]int64{row}, false}, {"61 outs, no rows", code, 1, make([]int64, 61), nil, false},
		{"twice the same", code, 2, []int64{1, 0, 1}, [][]int64{row}, true}, {"falling", code, 2, []int64{1, 0}, [][]int64{row}, true},
		{"one below", code, 2, []int64{0, -1}, [][]int64{row}, false}, {"one above", code, 2, []int64{2, 0}, [][]int64{row}, false}, {"one above, no rows", code, 2, []int64{0, 2}, nil, false},
		{"an out without cells", nil, 0, []int64{0}, nil, false}, {"an out far off", code, 2, []int64{math.MinInt64}, nil, false}, {"an out too great by far", code, 2, []int64{math.MaxInt64}, nil, false},
		{"a row too short in the midst", code, 1, []int64{0}, [][]int64{row, {}, row}, false}, {"a last row too short", code, 1, []int64{0}, [][]int64{row, nil}, false},
		{"a row of 60 in the midst", code, 1, []int64{0}, [][]int64{row, make([]int64, 60), row}, true}, {"a row of 61 in the midst", code, 1, []int64{0}, [][]int64{row, make([]int64, 61), row}, false},
		{"a number too great", code, 1, []int64{0}, [][]int64{row, {1000001}}, false}, {"one that is not asked for", code, 1, []int64{0}, [][]int64{row, {1, -1000001}}, false},
		{"numbers at their limits", code, 1, []int64{0}, [][]int64{{1000000}, {-1000000}}, true},
	} {
		shown, ok := codeRuns(t, c.code, c.cells, c.outs, c.rows)
		if ok != c.ok || ok && len(shown) != len(c.rows) || !ok && len(shown) != 0 {
			t.Error(c.name, shown, ok)
		}
	}
}

// TestP19RunCodePieces: a run is one Exec behind the other.
func TestP19RunCodePieces(t *testing.T) {
	for seed := range int64(60) {
		code := someCode(seed, 30, 6, 2)
		if !impl.CodeOk(code, 6, 2) {
			continue
		}
		rows := [][]int64{}
		for k := range int64(20) {
			rows = append(rows, someNumbers(seed*20+k, 2, -2, 2))
		}
		shown, ok := codeRuns(t, code, 6, []int64{0, 1, 2, 3, 4, 5}, rows)
		now := make([]int64, 6)
		for i, row := range rows {
			now, _ = impl.Exec(code, now, row)
			if !ok || !slices.Equal(now, shown[i]) {
				t.Fatal(seed, i, now, shown)
			}
		}
	}
}

func TestP19OverrunsTold(t *testing.T) {
	// What comes in costs 2 each, d 7 and what a and b cost, e 5 and what b costs.
	d := diagram(block("a", 1), block("b", 1), block("c", 1), block("d", 17, 0, 1), block("e", 19, 1), block("f", 1))
	for _, c := range []struct {
		outs []int64
		most int64
		list []int64
	}{
		{[]int64{0, 1, 2}, 0, []int64{0}}, {[]int64{0, 1, 2}, 1, []int64{0}}, {[]int64{0, 1, 2}, 2, []int64{0, 1}}, {[]int64{0, 1, 2}, 3, []int64{0, 1}},
		{[]int64{0, 1, 2}, 4, []int64{0, 1, 2}}, {[]int64{0, 1, 2}, 5, []int64{0, 1, 2}}, {[]int64{0, 1, 2}, 6, nil}, {[]int64{0, 1, 2}, 7, nil},
		{[]int64{0, 1, 2}, -1, nil}, {[]int64{0, 1, 2}, math.MaxInt64, nil}, {[]int64{0, 1, 2}, math.MinInt64, nil},
		{nil, 0, nil}, {nil, -1, nil},
		// A longer list with a lesser first place, {0, 1, 2, 5}, is not asked for.
		{[]int64{0, 1, 2, 3, 5}, 7, []int64{3}}, {[]int64{0, 1, 2, 3, 5}, 10, []int64{3}}, {[]int64{0, 1, 2, 3, 5}, 11, []int64{2, 3}}, {[]int64{0, 1, 2, 3, 5}, 14, []int64{2, 3, 5}}, {[]int64{0, 1, 2, 3, 5}, 15, nil},
		{[]int64{2, 4, 5}, 6, []int64{4}}, {[]int64{2, 4, 5}, 7, []int64{2, 4}}, {[]int64{2, 4, 5}, 8, []int64{2, 4}}, {[]int64{2, 4, 5}, 9, []int64{2, 4, 5}}, {[]int64{2, 4, 5}, 10, []int64{2, 4, 5}}, {[]int64{2, 4, 5}, 11, nil},
		{[]int64{3, 4}, 10, []int64{3}}, {[]int64{3, 4}, 6, []int64{3}}, {[]int64{3, 4}, 11, []int64{3, 4}}, {[]int64{3, 4}, 15, []int64{3, 4}}, {[]int64{3, 4}, 16, nil},
	} {
		if list := overruns(t, showing(d, c.outs...), c.most); !slices.Equal(list, c.list) {
			t.Error(c.outs, c.most, list, c.list)
		}
	}
}

func TestP19OverrunsOuts(t *testing.T) {
	for n := range 13 {
		list := overruns(t, manyBlocks(n), 0)
		if (len(list) == 1) != (n >= 1 && n <= 10) || len(list) > 1 {
			t.Error(n, list)
		}
		code := int64(len(impl.Compile(manyBlocks(n))))
		if list := overruns(t, manyBlocks(n), code); len(list) != 0 {
			t.Error("not more than that", n, list)
		}
		if list := overruns(t, manyBlocks(n), code-1); n <= 10 && len(list) != n || n > 10 && len(list) != 0 {
			t.Error("one less", n, list)
		}
	}
	many := manyBlocks(60)
	if list := overruns(t, showing(many, 1, 5, 9, 20, 30, 40, 50, 55, 58, 59), 15); !slices.Equal(list, []int64{1, 5, 9, 20, 30, 40, 50, 55}) {
		t.Error(list)
	}
}

// TestP19OverrunsShortest: what is told is enough, and nothing that is shorter, or as short and less, is.
func TestP19OverrunsShortest(t *testing.T) {
	long := 0
	for seed := range int64(120) {
		d := someDiagram(seed, 6+int(seed%20), false)
		d.Outs = d.Outs[:min(len(d.Outs), 6)]
		code := int64(len(impl.Compile(d)))
		for _, most := range []int64{0, code / 3, code / 2, code - 5, code - 1, code} {
			list := overruns(t, d, most)
			long = max(long, len(list))
			if len(list) > 0 && int64(len(impl.Compile(showing(d, list...)))) <= most {
				t.Error("not enough", d, most, list)
			}
		}
	}
	if long < 3 {
		t.Error("only short lists", long)
	}
}

func TestP19SensitiveTold(t *testing.T) {
	// What comes in: a (0), i (1), j (2), which nothing wants, b (3).
	d := showing(diagram(block("a", 1), block("i", 2), block("j", 2), block("b", 1), block("x", 5, 0, 3), block("y", 12, 1, 7), block("z", 9, 2, 2), fixed("n", 4, 5)), 4, 5)
	one := [][]int64{{1, 9, 4, 1}}
	big := [][]int64{{0, 1000000, 4, 1}, {0, 1000000, 4, 1}}
	deep := [][]int64{{0, -1000000, 4, 1}}
	for _, c := range []struct {
		name  string
		rows  [][]int64
		stuck int64
		list  []int64
	}{
		{"no rows", nil, 0, nil}, {"no rows", [][]int64{}, 1, nil},
		{"at 0", one, 0, []int64{0, 1, 3}}, {"at 1, the bools stay", one, 1, []int64{1}}, {"at -1, the bools stay", one, -1, []int64{1}}, {"at what it is", one, 9, nil},
		{"at 5, below which nothing is seen", [][]int64{{1, 3, 4, 1}}, 5, nil}, {"at 6", [][]int64{{1, 3, 4, 1}}, 6, []int64{1}},
		{"beyond MaxNumber", big, 1000001, []int64{0}}, {"far beyond", big, math.MaxInt64, []int64{0}}, {"at it", big, 1000000, []int64{0}}, {"just below it", big, 999999, []int64{0, 1}},
		{"beyond it at the other side", deep, -1000001, []int64{0}}, {"far beyond at the other side", deep, math.MinInt64, []int64{0}}, {"and above", deep, 1000001, []int64{0, 1}},
		{"a bool stuck at 1 alone", [][]int64{{0, 9, 4, 1}, {1, 9, 4, 0}}, 2, []int64{0, 1, 3}}, {"in one row of several", [][]int64{{0, 9, 4, 1}, {1, 9, 4, 1}, {0, 9, 4, 1}}, 0, []int64{0, 1, 3}},
		{"refused: too short", [][]int64{{1, 9, 4, 1}, {1, 9, 4}}, 0, nil}, {"refused: too long", [][]int64{{1, 9, 4, 1, 0}}, 0, nil},
		{"refused: no bool", [][]int64{{2, 9, 4, 1}}, 0, nil}, {"refused: too great", [][]int64{{1, 1000001, 4, 1}}, 0, nil}, {"refused: in what is stuck", [][]int64{{1, 9, 4, -1}}, 1, nil},
		{"refused: too many", slices.Repeat(one, 301), 0, nil}, {"just as many as may be", slices.Repeat(one, 300), 0, []int64{0, 1, 3}},
	} {
		if list := sensitive(t, d, c.rows, c.stuck); !slices.Equal(list, c.list) {
			t.Error(c.name, c.stuck, list, c.list)
		}
	}
	if list := sensitive(t, showing(d), one, 0); len(list) != 0 {
		t.Error("no Outs", list)
	}
	if list := sensitive(t, impl.Diagram{}, [][]int64{nil, nil}, 0); len(list) != 0 {
		t.Error("nothing", list)
	}
}

func TestP19SomeSensitive(t *testing.T) {
	met := 0
	for seed := range int64(60) {
		d := someDiagram(seed, 6+int(seed*7%40), seed%3 == 0)
		rows := rowsFor(d, seed, int(seed%7))
		for _, stuck := range []int64{0, 1, -1, 20, 2000000, -2000000} {
			met += len(sensitive(t, d, rows, stuck))
		}
	}
	if met < 150 {
		t.Error("too few", met)
	}
}

// TestP19AnswersAreNew writes into what was answered and asks again; what lies behind an argument stays.
func TestP19AnswersAreNew(t *testing.T) {
	d := showing(diagram(block("a", 1), block("b", 17, 0, 0), block("c", 19, 1)), 0, 2)
	code := impl.Compile(d)
	kept := slices.Clone(code)
	code[0] = instr(8, 8)
	if again := impl.Compile(d); !slices.Equal(again, kept) {
		t.Error("kept from a call to another one", again)
	}
	old, ins := []int64{1, 2, 77}[:2], []int64{3, 77}[:1]
	now, _ := impl.Exec(codeOf("old0 keep0 in0 keep1"), old, ins)
	now[0] = 9
	if !slices.Equal(old[:3], []int64{1, 2, 77}) || !slices.Equal(ins[:2], []int64{3, 77}) {
		t.Error("written into", old, ins)
	}
	outs, rows := []int64{1, 0, 77}[:2], [][]int64{{3}, {4}}
	shown, _ := impl.RunCode(codeOf("old0 keep0 in0 keep1"), 2, outs, rows)
	shown[0][0] = 9
	shown[0] = append(shown[0], 6)
	if !slices.Equal(outs[:3], []int64{1, 0, 77}) || shown[1][0] != 4 || !sameTable(rows, [][]int64{{3}, {4}}) {
		t.Error("rows share memory", shown, rows, outs)
	}
	both := manyBlocks(2)
	for _, most := range []int64{0, 3} {
		impl.Overruns(both, most)[0] = 7
		if !slices.Equal(both.Outs, []int64{0, 1}) {
			t.Error("a piece of Outs", most, both.Outs)
		}
	}
	wide := impl.Diagram{Blocks: d.Blocks, Outs: []int64{0, 2, 77}[:2]}
	for _, most := range []int64{0, 3, int64(len(kept)) - 1, 1000} {
		overruns(t, wide, most)
	}
	if wide.Outs[:3][2] != 77 {
		t.Error("written behind Outs")
	}
}

// TestP19AtTheSameTime: calls that run side by side do not hinder each other.
func TestP19AtTheSameTime(t *testing.T) {
	d := someDiagram(21, 40, false)
	rows, done := rowsFor(d, 3, 10), make(chan bool)
	want, _ := impl.RunDiagram(d, rows)
	for range 8 {
		go func() {
			good := true
			for range 20 {
				shown, ok := impl.RunCode(impl.Compile(d), int64(len(d.Blocks)), d.Outs, rows)
				good = good && ok && sameTable(shown, want)
			}
			done <- good
		}()
	}
	for range 8 {
		if !<-done {
			t.Error("another answer")
		}
	}
}
