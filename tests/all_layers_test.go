package tests

import (
	"fmt"
	"go/ast"
	"go/parser"
	"go/token"
	"math"
	"path/filepath"
	"reflect"
	"runtime"
	"strings"
	"sync"
	"testing"
	"unsafe"

	"loop.example/g00062/impl"
)

// What is said of the functions of all chapters: the same arguments give the same
// answers, and nothing is written into an argument.

// spareRoom is how much room each list of an argument has behind its end.
const spareRoom = 3

// asking is a function with rows of arguments; a number may be any, nil is the zero
// value of what is asked for.
type asking struct {
	f    any
	rows [][]any
}

func row(args ...any) []any {
	return args
}

func numbers(list ...int64) []int64 {
	return list
}

func (a asking) name() string {
	name := runtime.FuncForPC(reflect.ValueOf(a.f).Pointer()).Name()
	return name[strings.LastIndex(name, ".")+1:]
}

// argsOf gives each argument the kind that the function asks for.
func argsOf(f reflect.Value, given []any) []reflect.Value {
	args := []reflect.Value{}
	for i, arg := range given {
		kind := f.Type().In(i)
		if arg == nil {
			args = append(args, reflect.Zero(kind))
		} else {
			args = append(args, reflect.ValueOf(arg).Convert(kind))
		}
	}
	return args
}

// fill puts something into a value that stands in no argument.
func fill(v reflect.Value) {
	switch v.Kind() {
	case reflect.Bool:
		v.SetBool(!v.Bool())
	case reflect.Int64:
		v.SetInt(v.Int() ^ 7700077)
	case reflect.Uint8:
		v.SetUint(v.Uint() ^ 77)
	case reflect.Float64:
		v.SetFloat(-7700077.5)
	case reflect.String:
		v.SetString(v.String() + "?")
	case reflect.Slice:
		list := reflect.MakeSlice(v.Type(), 1, 1)
		fill(list.Index(0))
		v.Set(list)
	case reflect.Struct:
		for i := range v.NumField() {
			fill(v.Field(i))
		}
	}
}

// roomy copies a value; each list of the copy has room behind its end, with
// something in it.
func roomy(v reflect.Value) reflect.Value {
	out := reflect.New(v.Type()).Elem()
	switch v.Kind() {
	case reflect.Slice:
		list := reflect.MakeSlice(v.Type(), v.Len()+spareRoom, v.Len()+spareRoom)
		for i := range v.Len() {
			list.Index(i).Set(roomy(v.Index(i)))
		}
		for i := v.Len(); i < list.Len(); i++ {
			fill(list.Index(i))
		}
		out.Set(list.Slice(0, v.Len()))
	case reflect.Struct:
		for i := range v.NumField() {
			out.Field(i).Set(roomy(v.Field(i)))
		}
	case reflect.String:
		out.SetString(strings.Clone(v.String()))
	default:
		out.Set(v)
	}
	return out
}

func allRoomy(values []reflect.Value) []reflect.Value {
	out := []reflect.Value{}
	for _, v := range values {
		out = append(out, roomy(v))
	}
	return out
}

// written is all that there is in values; with room what stands behind the ends of
// lists, too. All NaNs are one, 0 and -0 are not, and an empty list is nothing.
func written(room bool, values ...reflect.Value) string {
	text := strings.Builder{}
	for _, v := range values {
		switch v.Kind() {
		case reflect.Slice:
			long := v.Len()
			if room {
				long = v.Cap()
			}
			text.WriteString("[")
			for i := range long {
				text.WriteString(written(room, v.Slice(0, long).Index(i)) + " ")
			}
			text.WriteString("]")
		case reflect.Struct:
			for i := range v.NumField() {
				text.WriteString(written(room, v.Field(i)) + ",")
			}
		case reflect.Float64:
			text.WriteString(fmt.Sprint(impl.BitsOf(v.Float())))
		default:
			text.WriteString(fmt.Sprintf("%#v", v.Interface()))
		}
		text.WriteString(";")
	}
	return text.String()
}

// A span is the memory of a list with its room, or of a text.
type span struct {
	from, to uintptr
	text     bool
}

func (s span) meets(o span) bool {
	return s.from < o.to && o.from < s.to
}

func spansOf(values ...reflect.Value) []span {
	list := []span{}
	for _, v := range values {
		switch v.Kind() {
		case reflect.Slice:
			if size := uintptr(v.Cap()) * v.Type().Elem().Size(); size > 0 {
				list = append(list, span{from: v.Pointer(), to: v.Pointer() + size})
			}
			for i := range v.Len() {
				list = append(list, spansOf(v.Index(i))...)
			}
		case reflect.Struct:
			for i := range v.NumField() {
				list = append(list, spansOf(v.Field(i))...)
			}
		case reflect.String:
			if text := v.String(); text != "" {
				from := uintptr(unsafe.Pointer(unsafe.StringData(text)))
				list = append(list, span{from: from, to: from + uintptr(len(text)), text: true})
			}
		}
	}
	return list
}

// sharing tells whether an answer shares memory with its arguments, or two lists of
// it with one another.
func sharing(answer []reflect.Value, args []reflect.Value) string {
	told, given := spansOf(answer...), spansOf(args...)
	for i, s := range told {
		for _, g := range given {
			if s.meets(g) {
				return "shares memory with an argument"
			}
		}
		for _, o := range told[:i] {
			if !s.text && !o.text && s.meets(o) {
				return "has two lists that share memory"
			}
		}
	}
	return ""
}

// spoil writes into all lists of values, and into their room.
func spoil(values ...reflect.Value) {
	for _, v := range values {
		switch v.Kind() {
		case reflect.Slice:
			whole := v.Slice(0, v.Cap())
			for i := range whole.Len() {
				spoil(whole.Index(i))
				fill(whole.Index(i))
			}
		case reflect.Struct:
			for i := range v.NumField() {
				spoil(v.Field(i))
			}
		}
	}
}

// keeps holds one call to what is said of all functions, and tells what it answers.
func keeps(t *testing.T, name string, f reflect.Value, args []reflect.Value) string {
	t.Helper()
	own := allRoomy(args)
	before := written(true, own...)
	answer := f.Call(own)
	first := written(false, answer...)
	fails := func(what string) {
		t.Helper()
		t.Error(name, what, written(false, args...), "answers", first)
	}
	if written(true, own...) != before {
		fails("writes into an argument")
	}
	if what := sharing(answer, own); what != "" {
		fails(what)
	}
	if written(false, f.Call(own)...) != first || written(false, f.Call(args)...) != first {
		fails("says something else at the second time")
	}
	spoil(answer...)
	if written(true, own...) != before || written(false, f.Call(own)...) != first {
		fails("hands out what it needs itself")
	}
	again := f.Call(own)
	spoil(own...)
	if written(false, again...) != first {
		fails("hands out what it was given")
	}
	return first
}

// exported are the names of all functions that the program gives out.
func exported(t *testing.T) map[string]int {
	t.Helper()
	names := map[string]int{}
	files, _ := filepath.Glob("../impl/*.go")
	for _, file := range files {
		parsed, err := parser.ParseFile(token.NewFileSet(), file, nil, 0)
		if err != nil {
			t.Fatal(err)
		}
		for _, d := range parsed.Decls {
			if f, ok := d.(*ast.FuncDecl); ok && f.Recv == nil && f.Name.IsExported() {
				names[f.Name.Name] = 0
			}
		}
	}
	return names
}

func askNumbers() []asking {
	half, third := impl.Frac{Num: 1, Den: 2}, impl.Frac{Num: -1, Den: 3}
	fuel, flue := impl.Fuel{C: 21, H: 84, S: 3, O: 5, N: 7}, impl.Flue{CO2: 3, CO: 2, C: 1, H2O: 4, H2: 5, SO2: 6, S: 7, O: 8, N: 9}
	curve := line(0, 5, 10, 25, 40, 100)
	return []asking{
		{impl.Same, [][]any{row(1, 2), row(math.NaN(), math.NaN()), row(0, minusZero())}}, {impl.Known, [][]any{row(1), row(math.Inf(1))}},
		{impl.BitsOf, [][]any{row(1.5), row(math.NaN())}}, {impl.FloatOf, [][]any{row(4607182418800017408), row(uint64(1) << 63)}},
		{impl.Short, [][]any{row(1.1), row(1e39)}}, {impl.Long, [][]any{row(1066192077), row(2143289345)}},
		{impl.MakeFrac, [][]any{row(6, -4), row(1, 0)}}, {impl.AddFrac, [][]any{row(half, third)}}, {impl.MulFrac, [][]any{row(half, third)}}, {impl.CmpFrac, [][]any{row(half, third)}},
		{impl.FuelOk, [][]any{row(fuel)}}, {impl.Burn, [][]any{row(fuel, 2), row(fuel, 20), row(fuel, -1)}}, {impl.Elements, [][]any{row(flue)}}, {impl.Need, [][]any{row(fuel)}},
		{impl.Excess, [][]any{row(fuel, 20)}}, {impl.HeatOf, [][]any{row(flue)}}, {impl.Balance, [][]any{row(impl.Gas{CO: 50, H2O: 60, CO2: 7, H2: 8}, half)}},
		{impl.CurveOk, [][]any{row(curve)}}, {impl.Along, [][]any{row(curve, 17), row(curve, 41)}}, {impl.Back, [][]any{row(curve, 17), row(curve, 1)}},
		{impl.SteamOf, [][]any{row(100, 26777), row(9, 0)}}, {impl.HeatAt, [][]any{row(100, impl.State{Kind: 3, Temp: 1006, Part: 1000}), row(100, impl.State{})}}, {impl.Throttle, [][]any{row(1000, 20000, 500), row(500, 20000, 1000)}},
	}
}

func askMachines() []asking {
	drum, acts := drumOf(50, 7, 1400, 3, 90), someActs(40)
	course, curve := someNumbers(5, 60, -500, 500), line(0, 100, 2000, 100)
	lines := rightMaps()[5]
	pipe, waves := somePipe(3, 20), someWaves(5)
	basin, water := impl.Basin{Store: 50, In: 90, Out: 30, Spilt: 10}, []impl.Water{{Inflow: 20, Want: 15, Day: 3}, {Inflow: 90, Want: 5, Day: 7}}
	return []asking{
		{impl.DrumOk, [][]any{row(drum)}}, {impl.DrumStep, [][]any{row(drum, 10, 200, 5), row(drum, -1, 0, 0)}}, {impl.LevelOf, [][]any{row(drum)}},
		{impl.DrumRun, [][]any{row(drum, acts), row(drum, nil), row(drum, []impl.Act{{}, {Feed: -1}})}}, {impl.Controlled, [][]any{row(drum, 80, numbers(10, 20, 0), numbers(1, 0, 4)), row(drum, 80, nil, nil), row(drum, 80, numbers(1), nil)}},
		{impl.Expand, [][]any{row(3000.5, someStages(3, 20)), row(1, nil), row(1, someStages(3, 101))}}, {impl.Bleed, [][]any{row(1000, numbers(100, 250, 0)), row(1000, nil), row(5, numbers(1001))}},
		{impl.Turnings, [][]any{row(course), row(numbers(4)), row(numbers(1, 2)), row(numbers(1, 2, 1)), row(nil)}}, {impl.Rain, [][]any{row(course), row(numbers(4)), row(numbers(1, 5, 2, 4, 0))}}, {impl.Life, [][]any{row([]impl.Swing{{Range: 10, Halves: 1}, {Range: 20, Halves: 2}}, curve), row([]impl.Swing{{}}, curve)}},
		{impl.MapOk, [][]any{row(lines), row(lines[:0])}}, {impl.RatioAt, [][]any{row(lines, 6, 21), row(lines, 5, 2), row(lines, 5, 50)}}, {impl.SurgeAt, [][]any{row(lines, 9)}}, {impl.Margin, [][]any{row(lines, 9, 12)}}, {impl.Surges, [][]any{row(lines, numbers(6, 17), numbers(20, 5))}},
		{impl.PipeOk, [][]any{row(pipe)}}, {impl.Hammer, [][]any{row(pipe, waves, 1.5, 1), row(pipe, waves, 1.5, 8), row(pipe, waves, 1.5, 9)}}, {impl.HammerRun, [][]any{row(pipe, waves, someValves(3, 9), 3), row(pipe, waves, nil, 3), row(pipe, waves, nil, 0)}},
		{impl.BasinStep, [][]any{row(basin, 60, flatRule(30), water[0])}}, {impl.BasinRun, [][]any{row(basin, 60, flatRule(30), water), row(basin, 60, flatRule(30), nil), row(basin, -1, flatRule(30), water)}},
	}
}

func askElectric() []asking {
	a, b := pair(1.5, -2), pair(-0.25, 7)
	machines, sensorOf := someMachines(7, 12, 50, 4, 9), sensor(-10, 400)
	battery := batteryOf(40, 100, 7)
	told := channels(3, 9)
	return []asking{
		{impl.AddPair, [][]any{row(a, b)}}, {impl.SubPair, [][]any{row(a, b)}}, {impl.MulPair, [][]any{row(a, b)}}, {impl.ConjPair, [][]any{row(a)}}, {impl.DivPair, [][]any{row(a, b), row(a, nil)}}, {impl.SamePair, [][]any{row(a, a)}}, {impl.Norm, [][]any{row(a)}},
		{impl.Sequence, [][]any{row(a, b, a)}}, {impl.Unsequence, [][]any{row(a, b, b)}}, {impl.Power, [][]any{row(a, b)}}, {impl.Capable, [][]any{row(a, impl.Range{Least: 0, Most: 5, Round: 9})}}, {impl.Closes, [][]any{row(a, a, 0.5, pair(1, 0))}},
		{impl.PolyAt, [][]any{row(numbers(3, -2, 1), a)}}, {impl.Response, [][]any{row(numbers(1, 2), numbers(3, 4, 5), 0.5)}}, {impl.Stable, [][]any{row(numbers(6, 11, 6, 1)), row(numbers(1, 0, 1))}}, {impl.GainMost, [][]any{row(numbers(1), numbers(6, 11, 6, 1))}}, {impl.RealRoots, [][]any{row(numbers(-2, 0, 1), -5, 5)}},
		{impl.Filter, [][]any{row([]float64{1, 2}, []float64{1, -0.5, 3}, someValves(5, 30)), row([]float64{1}, []float64{1}, []float64{2, 3}), row(nil, nil, []float64{2})}},
		{impl.LoopOk, [][]any{row(plainLoop(), nil)}}, {impl.LoopStep, [][]any{row(plainLoop(), nil, 8, 3)}}, {impl.LoopRun, [][]any{row(plainLoop(), nil, numbers(8, 9, 10), numbers(3, 4, 9)), row(plainLoop(), nil, nil, nil), row(plainLoop(), nil, numbers(1), nil)}},
		{impl.FallFor, [][]any{row([]impl.Unit{unitOf(100, 10), unitOf(50, 5)}, 91)}}, {impl.ShareOut, [][]any{row([]impl.Unit{unitOf(100, 10), unitOf(50, 5)}, 91), row([]impl.Unit{unitOf(100, 10)}, 0), row(nil, 0)}},
		{impl.Loading, [][]any{row(machines, 300), row(machines, 60), row(nil, 5), row(machines, -1)}}, {impl.PowerAt, [][]any{row(machines[:3], numbers(0, -1, 4), 5)}}, {impl.Shed, [][]any{row(machines, 100), row(machines, 0), row(machines, 100000)}},
		{impl.BatteryStep, [][]any{row(battery, 9, 3)}}, {impl.Lasts, [][]any{row(battery, numbers(10, 20, 30))}}, {impl.ReadCount, [][]any{row(sensorOf, 140), row(sensorOf, 39)}}, {impl.CountOf, [][]any{row(sensorOf, 99.5)}}, {impl.Calibrate, [][]any{row(1, 2, 3, 5)}},
		{impl.Corrected, [][]any{row(told, 1.5, 2), row(nil, 1, 2)}}, {impl.Validate, [][]any{row(told, 3), row(told, 0.01), row(told, -1)}}, {impl.Drifts, [][]any{row(told, 5), row(told, math.NaN())}}, {impl.Settled, [][]any{row([]float64{1, 9, 10, 11}, 10, 1)}},
	}
}

func askProtection() []asking {
	frame := frameOf(2, 300, 4, 5, 6)
	data, link := wantBytes(frame), linkOf(2, 299, 5, 7, 1, 2)
	point, guard, rows := pointOf(100, 90, true), guardOf(true, true, false, true), someRows(9, 3, 12)
	live := liveCycles(4, 60)
	outs, _, _ := impl.BurnerRun(impl.Burner{}, live)
	zones := []impl.Zone{zone(0, 5, 5, 40), zone(0, 9, 9, 80)}
	feeder, amps := someFeeder(3, 6)
	return []asking{
		{impl.Crc, [][]any{row(data), row(nil)}}, {impl.WriteFrame, [][]any{row(frame), row(frameOf(1, 0)), row(frameOf(0, 0))}}, {impl.ReadFrame, [][]any{row(data), row(data[:5]), row(wantBytes(frameOf(1, 0)))}},
		{impl.NewLink, [][]any{row(1), row(5)}}, {impl.Hear, [][]any{row(link, data), row(link, data[1:]), row(linkOf(2, 300, 0, 0, 3), data), row(linkOf(1, 299, 0, 0, 3), data), row(nil, data)}}, {impl.Older, [][]any{row(link, 3), row(link, -3), row(nil, 1)}}, {impl.Fresh, [][]any{row(link, 5), row(link, 4)}},
		{impl.Vote, [][]any{row(numbers(1, 0, 2, 3), 2)}}, {impl.Tolerates, [][]any{row(4, 2, 1, 1)}}, {impl.Says, [][]any{row(point, true, 95)}}, {impl.NewGuard, [][]any{row(8), row(0)}},
		{impl.GuardStep, [][]any{row(point, 2, guard, []float64{101, math.NaN(), 95}, []bool{false, false, true}, true), row(point, 4, guard, []float64{1, 2, 3}, []bool{false, false, true}, true)}}, {impl.GuardRun, [][]any{row(point, 2, guard, rows), row(point, 2, guard, nil), row(point, 9, guard, rows), row(nil, 0, guard, nil)}},
		{impl.BurnerOk, [][]any{row(burner(1, 4, 2))}}, {impl.BurnerStep, [][]any{row(burner(1, 4, 2), live[3])}}, {impl.BurnerRun, [][]any{row(nil, live), row(burner(1, 9, 2), live), row(nil, nil)}}, {impl.Lawful, [][]any{row(sightsOf(live, outs)), row([]impl.Sight{{Valve: true}})}},
		{impl.Sees, [][]any{row(zones[0], pair(0, 20), pair(2, 0))}}, {impl.Distance, [][]any{row(zones, pair(0, 20), pair(2, 0))}}, {impl.Differs, [][]any{row(pair(1, 2), pair(3, 4), 0.5, 0.1)}},
		{impl.DelayOf, [][]any{row(feeder[0], 500)}}, {impl.Cleared, [][]any{row(feeder, 3, 500)}}, {impl.Selective, [][]any{row(feeder, amps, 1), row(feeder, amps, 100000)}},
		{impl.Decide, [][]any{row(ordersOf(3, 1, 2, -1, 2, 1))}}, {impl.DriveStep, [][]any{row(drive(90, 0, 0, false), 1, 7, false)}}, {impl.DriveRun, [][]any{row(drive(50, 0, 0, false), somePushes(3, 20)), row(nil, nil), row(nil, []impl.Push{{}})}},
		{impl.LatchStep, [][]any{row(nil, true, false, 5)}}, {impl.Permits, [][]any{row([]bool{true, true, false, true}, locksOf(1, 0, 3, 2)), row(nil, nil)}},
	}
}

func askPrograms() []asking {
	d := showing(someDiagram(7, 20, false), 3, 6, 9, 19)
	loop, text := bigLoop(5), "in hot bool\nin ack bool\ndo trip hold hot ack\nset k -5\nout trip\nout k\n"
	rows, code := rowsFor(d, 3, 6), codeOf("in0 keep0 old1 now0 do5 num3 do9 keep1")
	plan, ticked := somePlan(3, 9, 5), someTicks(5, 30, true)
	return []asking{
		{impl.DiagramOk, [][]any{row(d), row(loop)}}, {impl.LoopOf, [][]any{row(d), row(loop)}}, {impl.OrderOf, [][]any{row(d), row(loop), row(nil)}}, {impl.Cycle, [][]any{row(d, make([]int64, 20), rows[0]), row(d, nil, rows[0])}}, {impl.RunDiagram, [][]any{row(d, rows), row(d, nil), row(diagram(), [][]int64{{}, {}})}},
		{impl.ReadDiagram, [][]any{row(text), row(text + "do a not a\n"), row("foo"), row("")}}, {impl.WriteDiagram, [][]any{row(d), row(loop)}}, {impl.Compile, [][]any{row(d), row(loop)}},
		{impl.CodeOk, [][]any{row(code, 2, 1), row(code, 1, 1)}}, {impl.Exec, [][]any{row(code, numbers(3, 4), numbers(5)), row(code, numbers(3, 4), nil), row(nil, numbers(3, 4), nil)}}, {impl.RunCode, [][]any{row(code, 2, numbers(1, 0, 1), [][]int64{{1}, {2}, {3}}), row(code, 2, numbers(1), [][]int64{{1}, {}}), row(code, 2, nil, [][]int64{{1}, {2}})}},
		{impl.Overruns, [][]any{row(d, 5), row(d, 10), row(d, 1000)}}, {impl.Sensitive, [][]any{row(d, rows, 0), row(d, rows, 7), row(d, [][]int64{nil}, 7)}},
		{impl.PlanOk, [][]any{row(plan)}}, {impl.Bound, [][]any{row(plan)}}, {impl.Ends, [][]any{row(plan, 0), row(plan, 9)}}, {impl.SeqStep, [][]any{row(plan, stand(0, 0), tick(65535))}}, {impl.SeqRun, [][]any{row(plan, ticked), row(plan, nil), row(nil, ticked)}}, {impl.Shortest, [][]any{row(plan, -1), row(plan, -2), row(plan, -3), row(plan, 0)}},
	}
}

func askOffice() []asking {
	alarms, scans := board(5, alarm(1, 1, true), alarm(1, 2, false), alarm(2, 3, true), alarm(2, 0, false)), someScans(3, 8, 4)
	net, open := ring(6), book(permit(5, 1, 0, 1), permit(9, 3, 2, 3))
	tree, plants := bridge(), twoPlants()
	limits, clocks := []impl.Limit{limit(2, 4), limit(3, 4), limit(2, 9)}, []impl.Clock{clock(3, false), clock(-1, false), clock(3, false)}
	jobs := someJobs(3, 12, 9, 3)
	begins, _ := impl.Schedule(jobs, 2)
	text := endedLines(litScript(11, 40))
	return []asking{
		{impl.BoardOk, [][]any{row(alarms)}}, {impl.BoardStep, [][]any{row(alarms, scans[0]), row(alarms, impl.Scan{})}}, {impl.BoardRun, [][]any{row(alarms, scans), row(alarms, nil), row(alarms, []impl.Scan{{}})}}, {impl.FirstOf, [][]any{row(alarms, 2)}}, {impl.Standing, [][]any{row(alarms), row(nil)}},
		{impl.NetOk, [][]any{row(net)}}, {impl.CutOff, [][]any{row(net, numbers(5, 2, 77), 1)}}, {impl.Fewest, [][]any{row(net, 3), row(net, 0), row(impl.Net{Places: 1}, 0)}}, {impl.BookOk, [][]any{row(net, open)}},
		{impl.Grant, [][]any{row(net, open, permit(7, 5, 4, 5)), row(net, open, permit(5, 5, 4, 5)), row(net, open, permit(7, 5, 4)), row(net, open, permit(0, 5, 4)), row(net, book(permit(1, 9)), permit(7, 5, 4, 5))}}, {impl.GiveBack, [][]any{row(net, open, 5), row(net, open, 6), row(net, book(permit(1, 9)), 1)}}, {impl.Tags, [][]any{row(net, open)}}, {impl.MayOpen, [][]any{row(net, open, 4)}},
		{impl.TreeOk, [][]any{row(tree)}}, {impl.FailsBy, [][]any{row(tree, numbers(2, 99, 0))}}, {impl.MinCuts, [][]any{row(tree), row(someTree(4, 8, 6))}}, {impl.Chance, [][]any{row(tree, numbers(1, 2, 3, 4, 5))}}, {impl.Upper, [][]any{row(tree, numbers(1, 2, 3, 4, 5))}}, {impl.Weight, [][]any{row(tree, numbers(1, 2, 3, 4, 5), 2)}}, {impl.Common, [][]any{row(tree, [][]int64{{0}, {4, 3}, {}, {2, 1, 50}})}},
		{impl.Merit, [][]any{row(plants, []bool{true, true}, 60), row(plants, []bool{true, true}, 600)}}, {impl.CostOf, [][]any{row(plants, numbers(20, 20), planOf("10", "11"))}}, {impl.Best, [][]any{row(plants, numbers(5, 20, 20, 60, 0)), row(plants, numbers(500))}}, {impl.Floor, [][]any{row(plants, numbers(60, 0))}}, {impl.Metered, [][]any{row([]impl.Reading{{From: 99990, To: 10}}, 15)}},
		{impl.ClockStep, [][]any{row(limits, clocks, 1, []bool{true, true, false}), row(limits, clocks, 0, []bool{false, false, false}), row(limits, clocks, 8, []bool{true, true, false})}}, {impl.SoonestLate, [][]any{row(limits, clocks)}}, {impl.DueTests, [][]any{row([]impl.Test{dueTest(10, 85), dueTest(5, 90), dueTest(3, 80)}, 100), row(nil, -1)}},
		{impl.Critical, [][]any{row(jobs)}}, {impl.Schedule, [][]any{row(jobs, 2), row(jobs, 10), row(nil, 1), row(jobs, 0)}}, {impl.ScheduleOk, [][]any{row(jobs, 2, begins), row(jobs, 1, begins)}},
		{impl.Simulate, [][]any{row(text), row(text + "x"), row("")}}, {impl.Final, [][]any{row(text), row(text + "x"), row("")}},
	}
}

func allAskings() []asking {
	list := []asking{}
	for _, some := range [][]asking{askNumbers(), askMachines(), askElectric(), askProtection(), askPrograms(), askOffice()} {
		list = append(list, some...)
	}
	return list
}

// TestP27AllAreAsked: no function that is given out is left out here.
func TestP27AllAreAsked(t *testing.T) {
	names := exported(t)
	for _, a := range allAskings() {
		names[a.name()]++
	}
	for name, many := range names {
		if many != 1 {
			t.Error(name, "is asked so often:", many)
		}
	}
	if len(names) != 158 {
		t.Error("not all functions of the document", len(names))
	}
}

func TestP27ToldArguments(t *testing.T) {
	for _, a := range allAskings() {
		f := reflect.ValueOf(a.f)
		for _, given := range a.rows {
			keeps(t, a.name(), f, argsOf(f, given))
		}
	}
}

// oddValue makes a value of a kind out of dice: small numbers, short lists, now and
// then what is no number or far off.
func oddValue(kind reflect.Type, dice func(int) int) reflect.Value {
	v := reflect.New(kind).Elem()
	switch kind.Kind() {
	case reflect.Bool:
		v.SetBool(dice(2) == 0)
	case reflect.Int64:
		v.SetInt([]int64{0, 0, 1, 1, 1, 2, 2, 3, 4, 5, 10, 100, 1000, -1, -2, math.MinInt64, math.MaxInt64}[dice(17)])
	case reflect.Uint8, reflect.Uint32, reflect.Uint64:
		v.SetUint(uint64(dice(256)))
	case reflect.Float64:
		v.SetFloat([]float64{0, 1, 2, 3, 10, 100, 0.5, -1, minusZero(), math.NaN(), math.Inf(1), math.Inf(-1), math.MaxFloat64}[dice(13)])
	case reflect.String:
		v.SetString([]string{"", "a", "b", "in a bool\n", "do b not a\n", "out b", "show\n", "drum 1 2 3\nscan\n", "\xff", "A"}[dice(10)])
	case reflect.Slice:
		long := dice(5)
		v.Set(reflect.MakeSlice(kind, long, long))
		for i := range long {
			v.Index(i).Set(oddValue(kind.Elem(), dice))
		}
	case reflect.Struct:
		for i := range v.NumField() {
			v.Field(i).Set(oddValue(kind.Field(i).Type, dice))
		}
	}
	return v
}

// TestP27OddArguments: whatever is asked, there is an answer, and it is the same again.
func TestP27OddArguments(t *testing.T) {
	for _, a := range allAskings() {
		f := reflect.ValueOf(a.f)
		for seed := range int64(60) {
			rolled := someNumbers(seed, 4000, 0, 1<<30)
			dice := func(sides int) int {
				n := rolled[0]
				rolled = append(rolled[1:], n)
				return int(n>>5) % sides
			}
			args := []reflect.Value{}
			for i := range f.Type().NumIn() {
				args = append(args, oddValue(f.Type().In(i), dice))
			}
			keeps(t, a.name(), f, args)
		}
	}
}

// TestP27OneOddArgument puts one odd value among told ones.
func TestP27OneOddArgument(t *testing.T) {
	for _, a := range allAskings() {
		f := reflect.ValueOf(a.f)
		for i := range f.Type().NumIn() {
			for seed := range int64(6) {
				rolled := someNumbers(seed+int64(i)*77, 2000, 0, 1<<30)
				dice := func(sides int) int {
					n := rolled[0]
					rolled = append(rolled[1:], n)
					return int(n>>5) % sides
				}
				args := argsOf(f, a.rows[0])
				args[i] = oddValue(f.Type().In(i), dice)
				keeps(t, a.name(), f, args)
			}
		}
	}
}

// TestP27AtTheSameTime: functions that are asked at once, with the same memory for
// arguments, answer as they do one by one.
func TestP27AtTheSameTime(t *testing.T) {
	type call struct {
		name string
		f    reflect.Value
		args []reflect.Value
		want string
	}
	calls := []call{}
	for _, a := range allAskings() {
		f := reflect.ValueOf(a.f)
		for _, given := range a.rows {
			args := allRoomy(argsOf(f, given))
			calls = append(calls, call{name: a.name(), f: f, args: args, want: written(false, f.Call(args)...)})
		}
	}
	var all sync.WaitGroup
	for worker := range 4 {
		all.Go(func() {
			for i := range calls {
				c := calls[(i+worker*31)%len(calls)]
				if said := written(false, c.f.Call(c.args)...); said != c.want {
					t.Error(c.name, said, c.want)
				}
			}
		})
	}
	all.Wait()
}
