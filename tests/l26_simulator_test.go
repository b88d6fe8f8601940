package tests

import (
	"fmt"
	"math"
	"regexp"
	"runtime"
	"slices"
	"strconv"
	"strings"
	"sync"
	"testing"
	"time"

	"loop.example/g00062/impl"
)

func TestP26Constants(t *testing.T) {
	if impl.MaxScript != 60 || impl.MaxText != 8000 {
		t.Error("a limit")
	}
}

// wantWorld is a station as the second reading of the chapter has it.
type wantWorld struct {
	drum   impl.Drum
	burner impl.Burner
	guard  impl.Guard
	board  impl.Board
	drive  impl.Drive
	lines  []string
	gave   []int64
}

func firstWorld() wantWorld {
	return wantWorld{guard: guardOf(false, false, false, false, false), board: board(0, quiets(3)...)}
}

func (w wantWorld) copied() wantWorld {
	w.guard, w.board = guardCopy(w.guard), boardCopy(w.board)
	w.lines, w.gave = slices.Clone(w.lines), slices.Clone(w.gave)
	return w
}

func (w wantWorld) shown() string {
	return fmt.Sprintf("drum %d %d burner %d guard %d pos %d now %d", w.drum.Water, w.drum.Steam, w.burner.State, flag(w.guard.Latched), w.drive.Pos, w.board.Now)
}

func numberOf(word string) int64 {
	n, _ := strconv.ParseInt(word, 10, 64)
	return n
}

func withBlanks(word string, numbers []int64) string {
	for _, n := range numbers {
		word += fmt.Sprintf(" %d", n)
	}
	return word
}

func (w *wantWorld) drums(words []string) string {
	next, ok := wantStep(w.drum, numberOf(words[1]), numberOf(words[2]), numberOf(words[3]))
	if !ok {
		return "no"
	}
	w.drum = next
	return fmt.Sprintf("water %d steam %d level %d", next.Water, next.Steam, next.Water+next.Steam+next.Steam)
}

func (w *wantWorld) burns(words []string) string {
	for i, word := range words {
		if slices.Contains(words[:i], word) {
			return "what"
		}
	}
	has := func(word string) bool { return slices.Contains(words, word) }
	w.burner = wantBurner(w.burner, impl.In{Air: has("air"), Gas: has("gas"), Flame: has("flame"), Start: has("start"), Stop: has("stop"), Reset: has("reset")})
	said := fmt.Sprintf("state %d timer %d", w.burner.State, w.burner.Timer)
	if w.burner.State == 2 || w.burner.State == 3 {
		said += " valve"
	}
	return said
}

func (w *wantWorld) guards(words []string) string {
	xs, bypass := []float64{}, []bool{}
	for _, word := range words[1:] {
		x := math.NaN()
		if word != "bad" && word != "bypass" {
			x = float64(numberOf(word))
		}
		xs, bypass = append(xs, x), append(bypass, word == "bypass")
	}
	next, v := wantGuard(pointOf(100, 90, true), 2, w.guard, xs, bypass, words[0] == "free")
	w.guard = next
	said := []string{"good", "trip"}[v]
	if next.Latched {
		said += " latched"
	}
	return said
}

func (w *wantWorld) moves(words []string) string {
	want := int64(-1)
	if w.burner.State == 3 && !w.guard.Latched {
		want = 1
	}
	next, ok := wantDrive(w.drive, want, numberOf(words[1]), false)
	if !ok {
		return "no"
	}
	w.drive = next
	return fmt.Sprintf("pos %d", next.Pos)
}

func (w *wantWorld) scans(words []string) string {
	seen := []int64{}
	if words[0] == "seen" {
		seen = []int64{0, 1, 2}
	}
	there := []bool{w.guard.Latched, w.burner.State == 4, w.drum.Water+2*w.drum.Steam < 100}
	next, told, _ := wantBoardStep(w.board, impl.Scan{There: there, Seen: seen})
	w.board = next
	return withBlanks(fmt.Sprintf("first %d told", wantFirstOf(next, 1)), told)
}

func (w *wantWorld) blocks(words []string) string {
	lines := append(slices.Clone(w.lines), strings.Join(words[1:], " "))
	d, code, line := wantRead18(strings.Join(lines, "\n"))
	if code != 0 {
		return fmt.Sprintf("code %d line %d", code, line)
	}
	w.lines, w.gave = lines, make([]int64, len(d.Blocks))
	return "ok"
}

func (w *wantWorld) cycles(words []string) string {
	d, _, _ := wantRead18(strings.Join(w.lines, "\n"))
	ins := []int64{}
	for _, word := range words[1:] {
		ins = append(ins, numberOf(word))
	}
	next, ok := wantCycle(d, w.gave, ins)
	if !ok {
		return "no"
	}
	w.gave = next
	shown := []int64{}
	for _, place := range d.Outs {
		shown = append(shown, next[place])
	}
	return withBlanks("outs", shown)
}

// allForms are the lines that there are, their words parted by one blank.
var allForms = lineForms()

func lineForms() map[string]*regexp.Regexp {
	forms := map[string]*regexp.Regexp{}
	for name, form := range map[string]string{
		"drum": `drum( \d{1,7}){3}`, "burn": `burn( (air|gas|flame|start|stop|reset))*`, "guard": `(guard|free)( (\d{1,7}|bad|bypass)){4}`,
		"move": `move \d{1,7}`, "scan": `scan|seen`, "block": `block (?s:.)+`, "cycle": `cycle( \d{1,7})*`, "save": `save \d`, "load": `load \d`, "show": `show`,
	} {
		forms[name] = regexp.MustCompile(`^(?:` + form + `)$`)
	}
	return forms
}

func formOf(line string) string {
	for name, form := range allForms {
		if form.MatchString(line) {
			return name
		}
	}
	return ""
}

// says does what a line asks for; kept are the snapshots.
func (w *wantWorld) says(words []string, kept map[string]wantWorld) string {
	switch formOf(strings.Join(words, " ")) {
	case "drum":
		return w.drums(words)
	case "burn":
		return w.burns(words)
	case "guard":
		return w.guards(words)
	case "move":
		return w.moves(words)
	case "scan":
		return w.scans(words)
	case "block":
		return w.blocks(words)
	case "cycle":
		return w.cycles(words)
	case "show":
		return w.shown()
	case "save":
		kept[words[1]] = w.copied()
		return "saved " + words[1]
	case "load":
		was, ok := kept[words[1]]
		if !ok {
			return "none"
		}
		*w = was.copied()
		return "loaded " + words[1]
	}
	return "what"
}

// wantSaid is what a script says, and what would be shown at its end.
func wantSaid(text string) (string, string) {
	lines := strings.SplitAfter(text, "\n")
	if len(text) > 8000 || len(lines) > 61 || lines[len(lines)-1] != "" {
		return "too long\n", ""
	}
	w, kept, said := firstWorld(), map[string]wantWorld{}, ""
	for _, line := range lines {
		if words := wantWords(strings.TrimSuffix(line, "\n")); len(words) > 0 {
			said += w.says(words, kept) + "\n"
		}
	}
	return said, w.shown()
}

// script holds what a script says against what is wanted, twice.
func script(t *testing.T, text string) string {
	t.Helper()
	want, last := wantSaid(text)
	for range 2 {
		if said := impl.Simulate(text); said != want {
			t.Errorf("script %q\nsays %q\nnot  %q", text, said, want)
		}
		if shown := impl.Final(text); shown != last {
			t.Errorf("script %q\nends with %q\nnot       %q", text, shown, last)
		}
	}
	return impl.Simulate(text)
}

// tells takes a script's lines two by two: what is asked, and what is said.
func tells(t *testing.T, pairs ...string) {
	t.Helper()
	text, want := "", ""
	for i := 0; i < len(pairs); i += 2 {
		text, want = text+pairs[i]+"\n", want+pairs[i+1]+"\n"
	}
	if said := script(t, text); said != want {
		t.Errorf("script %q\nsays %q\nnot  %q", text, said, want)
	}
}

func TestP26DrumTold(t *testing.T) {
	tells(t,
		"drum 10 0 0", "water 10 steam 0 level 10", "drum 0 300 4", "water 0 steam 6 level 12", "show", "drum 0 6 burner 0 guard 0 pos 0 now 0",
		"drum 0 0 0", "water 0 steam 6 level 12", "drum 1000000 0 0", "water 1000006 steam 0 level 1000006", "drum 1000001 0 0", "no", "drum 0 1000001 0", "no", "drum 0 0 1000001", "no",
		"drum 9999999 9999999 9999999", "no", "show", "drum 1000006 0 burner 0 guard 0 pos 0 now 0", "drum 0 1000000 1000000", "water 1000006 steam 0 level 1000006")
	tells(t, "drum 0000010 007 0", "water 10 steam 0 level 10", "drum 0 0 7", "water 10 steam 0 level 10", "drum 0 253 7", "water 0 steam 3 level 6")
}

func TestP26BurnTold(t *testing.T) {
	tells(t,
		"burn", "state 0 timer 0", "burn air gas", "state 0 timer 0", "burn start", "state 1 timer 0", "burn air gas", "state 1 timer 1", "burn", "state 1 timer 0",
		"burn gas air", "state 1 timer 1", "burn air", "state 1 timer 2", "burn air", "state 1 timer 3", "burn air", "state 1 timer 4", "burn air", "state 1 timer 4",
		"burn air gas", "state 2 timer 0 valve", "burn air gas", "state 2 timer 1 valve", "burn flame gas air", "state 3 timer 0 valve", "burn air gas flame start reset", "state 3 timer 0 valve",
		"burn air gas", "state 4 timer 0", "burn reset flame", "state 4 timer 0", "burn stop", "state 4 timer 0", "burn reset", "state 0 timer 0")
	tells(t, "burn air gas flame start stop reset", "state 0 timer 0", "burn reset stop start flame gas air", "state 0 timer 0", "burn start air gas reset", "state 1 timer 0", "burn air gas flame start stop reset", "state 0 timer 0")
	for _, word := range []string{"air", "gas", "flame", "start", "stop", "reset"} {
		tells(t, "burn start", "state 1 timer 0", "burn "+word+" "+word, "what", "burn air "+word+" gas "+word, "what", "burn "+word+" flam", "what", "show", "drum 0 0 burner 1 guard 0 pos 0 now 0")
	}
	tells(t, "burn Air", "what", "burn airgas", "what", "burn 1", "what", "burn air,gas", "what", "burn flames", "what", "burn burn", "what", "burn valve", "what", "show", "drum 0 0 burner 0 guard 0 pos 0 now 0")
}

func TestP26BurnerEndsItsTries(t *testing.T) {
	text := "burn start\n" + strings.Repeat("burn air gas\n", 40) + "scan\n"
	said := strings.Split(script(t, text), "\n")
	if said[5] != "state 2 timer 0 valve" || said[8] != "state 1 timer 0" || said[24] != "state 4 timer 0" || said[41] != "first 1 told 1 2" {
		t.Error(said)
	}
}

func TestP26GuardTold(t *testing.T) {
	tells(t, "guard 0 0 0 0", "good", "guard 100 0 0 0", "good", "guard 99 99 99 99", "good", "guard 0 0 0 0", "good", "guard 100 0 0 100", "trip latched",
		"guard 90 90 90 90", "good latched", "free 101 101 0 0", "trip latched", "free 91 90 0 0", "good", "guard 91 100 0 0", "trip latched", "free 91 91 0 0", "trip latched", "free 90 91 0 0", "good", "show", "drum 0 0 burner 0 guard 0 pos 0 now 0")
	tells(t, "guard bad 0 0 0", "good", "guard bad bad 0 0", "trip latched", "free bad 0 0 0", "good", "free bad 0 0 101", "trip latched", "free 0 bad bypass 0", "good")
	tells(t, "guard bypass bypass bypass 0", "good", "guard bypass bypass bypass 100", "trip latched", "free bypass bypass bypass bad", "trip latched", "free bypass bypass bypass bypass", "trip latched", "free bypass bypass bypass 90", "good", "guard bypass 100 100 bypass", "trip latched")
	tells(t, "guard 101 0 0 0", "good", "guard bypass 0 0 95", "good", "guard 95 100 0 0", "trip latched", "show", "drum 0 0 burner 0 guard 1 pos 0 now 0", "free 95 bad 0 0", "trip latched", "free 90 bad 0 0", "good", "guard 95 0 0 bad", "good")
	tells(t, "guard 9999999 0000100 0 0", "trip latched", "guard 0000000 0 00 000", "good latched", "free 0 0 0 0", "good")
}

func TestP26MoveTold(t *testing.T) {
	lit := []string{"burn start", "state 1 timer 0", "burn air", "state 1 timer 1", "burn air", "state 1 timer 2", "burn air", "state 1 timer 3", "burn air", "state 1 timer 4", "burn air gas", "state 2 timer 0 valve", "burn air gas flame", "state 3 timer 0 valve"}
	tells(t, append(slices.Clone(lit), "move 0", "no", "move 101", "no", "move 1", "pos 1", "move 60", "pos 61", "move 9999999", "no", "move 00060", "pos 100", "move 100", "pos 100",
		"guard 101 101 0 0", "trip latched", "move 30", "pos 70", "free 0 0 0 0", "good", "move 7", "pos 77", "burn stop", "state 0 timer 0", "move 100", "pos 0", "move 1", "pos 0")...)
	tells(t, "move 5", "pos 0", "burn start", "state 1 timer 0", "move 5", "pos 0", "move 100", "pos 0")
	slow := slices.Clone(lit)
	for pos := range 24 {
		slow = append(slow, "move 1", fmt.Sprintf("pos %d", pos+1))
	}
	tells(t, append(slow, "burn stop", "state 0 timer 0", "move 30", "pos 0", "show", "drum 0 0 burner 0 guard 0 pos 0 now 0")...)
}

func TestP26ScanTold(t *testing.T) {
	tells(t, "scan", "first 2 told 2", "scan", "first 2 told", "seen", "first 2 told", "drum 100 0 0", "water 100 steam 0 level 100", "scan", "first -1 told", "scan", "first -1 told", "show", "drum 100 0 burner 0 guard 0 pos 0 now 5")
	tells(t, "drum 99 0 0", "water 99 steam 0 level 99", "scan", "first 2 told 2", "drum 1 0 0", "water 100 steam 0 level 100", "scan", "first 2 told", "seen", "first -1 told")
	tells(t, "guard 101 101 0 0", "trip latched", "scan", "first 0 told 0 2", "free 0 0 0 0", "good", "scan", "first 0 told", "guard 101 101 0 0", "trip latched", "scan", "first 0 told 0", "seen", "first 0 told", "free 0 0 0 0", "good", "scan", "first -1 told", "guard 101 101 0 0", "trip latched", "seen", "first -1 told 0")
	tells(t, "burn flame", "state 4 timer 0", "drum 100 0 0", "water 100 steam 0 level 100", "scan", "first 1 told 1", "burn reset", "state 0 timer 0", "seen", "first -1 told", "burn flame", "state 4 timer 0", "seen", "first 1 told 1", "burn reset", "state 0 timer 0", "scan", "first 1 told", "burn flame", "state 4 timer 0", "scan", "first 1 told 1", "show", "drum 100 0 burner 4 guard 0 pos 0 now 5")
	tells(t, "seen", "first 2 told 2", "seen", "first 2 told", "burn flame", "state 4 timer 0", "guard bad bad bad bad", "trip latched", "seen", "first 2 told 0 1", "drum 1000 0 0", "water 1000 steam 0 level 1000", "seen", "first -1 told", "scan", "first -1 told")
}

func TestP26BlocksTold(t *testing.T) {
	tells(t, "cycle", "outs", "cycle 0", "no", "block in a bool", "ok", "cycle", "no", "cycle 1", "outs", "cycle 2", "no", "cycle 0 0", "no", "block out a", "ok", "cycle 1", "outs 1", "cycle 0000001", "outs 1")
	tells(t, "block in a bool", "ok", "block do n not b", "code 8 line 2", "block do n not a", "ok", "block do n not a", "code 4 line 3", "block do m not m", "code 10 line 3", "block foo", "code 2 line 3", "block do m nor a", "code 5 line 3", "block do m not a a", "code 6 line 3",
		"block set N true", "code 3 line 3", "block set k 5", "ok", "block do m not k", "code 9 line 4", "block out n", "ok", "block out n", "code 4 line 5", "block out k", "ok", "cycle 1", "outs 0 5", "cycle 0", "outs 1 5")
	tells(t, "block   in   a   int  ", "ok", "block in b int", "ok", "block do s add a b", "ok", "block out s", "ok", "cycle 1 2", "outs 3", "cycle 1000000 1", "outs 1000000", "cycle 1000001 1", "no", "cycle 9999999 0", "no", "cycle 5", "no", "cycle 5 6 7", "no", "block set c -7", "ok", "block do d add s c", "ok", "block out d", "ok", "cycle 1 2", "outs 3 -4")
	tells(t, "block set a 007", "code 2 line 1", "block set a 1000001", "code 2 line 1", "block set a -1000000", "ok", "block out a", "ok", "cycle", "outs -1000000")
}

// TestP26RefusedBlocks: a line that is refused leaves the text and what the blocks
// gave, one that is taken makes them forget it.
func TestP26RefusedBlocks(t *testing.T) {
	counts := []string{"block in a bool", "ok", "block do n count a", "ok", "block out n", "ok", "cycle 1", "outs 1", "cycle 1", "outs 2"}
	for _, refused := range []string{"block do n count a", "block out n", "block foo", "block in a bool x", "block do m not x", "block do m not n", "block do m not m", "block do M not a"} {
		d, code, line := wantRead18("in a bool\ndo n count a\nout n\n" + strings.TrimPrefix(refused, "block "))
		if code == 0 {
			t.Error("not refused", refused, d)
		}
		tells(t, append(slices.Clone(counts), refused, fmt.Sprintf("code %d line %d", code, line), "cycle 1", "outs 3", refused, fmt.Sprintf("code %d line %d", code, line), "cycle 1", "outs 4")...)
	}
	for _, none := range []string{"block", "cycle x", "cycle 1x", "foo", "cycle -1"} {
		tells(t, append(slices.Clone(counts), none, "what", "cycle 1", "outs 3")...)
	}
	tells(t, append(slices.Clone(counts), "cycle 2", "no", "cycle", "no", "cycle 1", "outs 3")...)
	tells(t, append(slices.Clone(counts), "block set k true", "ok", "cycle 1", "outs 1", "cycle 1", "outs 2")...)
	tells(t, append(slices.Clone(counts), "block do m not a", "ok", "block out m", "ok", "cycle 1", "outs 1 0", "cycle 0", "outs 0 1")...)
}

func TestP26SnapshotsTold(t *testing.T) {
	tells(t, "load 0", "none", "save 0", "saved 0", "load 0", "loaded 0", "load 9", "none", "save 9", "saved 9", "load 9", "loaded 9", "load 1", "none")
	tells(t, "save", "what", "save 00", "what", "save 10", "what", "save a", "what", "save -1", "what", "save 1 1", "what", "load 1", "none", "load", "what", "load 00", "what", "load 10", "what", "load x", "what", "load 1 1", "what", "load +1", "what")
	tells(t, "drum 5 0 0", "water 5 steam 0 level 5", "save 1", "saved 1", "drum 5 0 0", "water 10 steam 0 level 10", "save 2", "saved 2", "drum 5 0 0", "water 15 steam 0 level 15",
		"load 1", "loaded 1", "show", "drum 5 0 burner 0 guard 0 pos 0 now 0", "load 2", "loaded 2", "show", "drum 10 0 burner 0 guard 0 pos 0 now 0", "save 1", "saved 1", "load 1", "loaded 1", "show", "drum 10 0 burner 0 guard 0 pos 0 now 0", "load 1", "loaded 1", "show", "drum 10 0 burner 0 guard 0 pos 0 now 0", "load 3", "none", "show", "drum 10 0 burner 0 guard 0 pos 0 now 0")
	tells(t, "block in a bool", "ok", "block do n count a", "ok", "block out n", "ok", "cycle 1", "outs 1", "save 4", "saved 4", "cycle 1", "outs 2", "block out a", "ok", "cycle 1", "outs 1 1", "load 4", "loaded 4", "cycle 1", "outs 2", "cycle 1", "outs 3", "block out a", "ok", "cycle 0", "outs 0 0", "load 4", "loaded 4", "cycle 1", "outs 2")
	tells(t, "guard 101 101 0 0", "trip latched", "scan", "first 0 told 0 2", "save 5", "saved 5", "free 0 0 0 0", "good", "seen", "first -1 told", "drum 200 0 0", "water 200 steam 0 level 200", "seen", "first -1 told", "load 5", "loaded 5", "scan", "first 0 told", "show", "drum 0 0 burner 0 guard 1 pos 0 now 2", "guard 95 95 0 0", "trip latched")
}

func TestP26ShowBehindAll(t *testing.T) {
	tells(t, "show", "drum 0 0 burner 0 guard 0 pos 0 now 0", "drum 10 300 4", "water 0 steam 6 level 12", "show", "drum 0 6 burner 0 guard 0 pos 0 now 0", "burn start", "state 1 timer 0", "show", "drum 0 6 burner 1 guard 0 pos 0 now 0",
		"guard bad bad 0 0", "trip latched", "show", "drum 0 6 burner 1 guard 1 pos 0 now 0", "scan", "first 0 told 0 2", "show", "drum 0 6 burner 1 guard 1 pos 0 now 1", "seen", "first 0 told", "show", "drum 0 6 burner 1 guard 1 pos 0 now 2",
		"free 0 0 0 0", "good", "show", "drum 0 6 burner 1 guard 0 pos 0 now 2", "move 9", "pos 0", "show", "drum 0 6 burner 1 guard 0 pos 0 now 2", "block in a bool", "ok", "cycle 1", "outs", "save 7", "saved 7", "what", "what", "show", "drum 0 6 burner 1 guard 0 pos 0 now 2", "burn stop", "state 0 timer 0", "load 7", "loaded 7", "show", "drum 0 6 burner 1 guard 0 pos 0 now 2", "show show", "what", "shows", "what", "SHOW", "what")
}

// TestP26EveryLine takes each line of the table with words too few, just right and
// too many, and with a word that is none; what says "what" leaves all as it was.
func TestP26EveryLine(t *testing.T) {
	begun := []string{"drum 50 400 3", "burn start", "burn air gas", "guard 101 0 0 95", "scan", "block in a bool", "block do n count a", "block out n", "cycle 1", "save 3", "drum 7 0 0", "cycle 1"}
	probes := []string{"show", "cycle 1", "drum 1 2 3", "burn air gas", "guard 0 95 0 95", "move 3", "seen", "load 3", "show", "cycle 1"}
	good := map[string][]string{
		"drum": {"drum 1 2 3"}, "burn": {"burn", "burn air", "burn air gas flame start stop reset"}, "guard": {"guard 1 2 3 4", "guard bad bypass 0 1"}, "free": {"free 1 2 3 4", "free bypass bad 0 1"},
		"move": {"move 1"}, "scan": {"scan"}, "seen": {"seen"}, "block": {"block in b bool", "block x"}, "cycle": {"cycle", "cycle 1", "cycle 1 2 3 4"}, "save": {"save 1"}, "load": {"load 1", "load 3"}, "show": {"show"},
	}
	wrong := map[string][]string{
		"drum":  {"drum", "drum 1", "drum 1 2", "drum 1 2 3 4", "drum a 2 3", "drum 1 b 3", "drum 1 2 c", "drum -1 2 3", "drum 1 2 bad"},
		"burn":  {"burn x", "burn air x", "burn air air", "burn air gas flame start stop reset air", "burn 0"},
		"guard": {"guard", "guard 1 2 3", "guard 1 2 3 4 5", "guard 1 2 3 x", "guard x 2 3 4", "guard 1 2 Bad 3", "guard 1 2 3 -4", "guard bad bad bad"},
		"free":  {"free", "free 1 2 3", "free 1 2 3 4 5", "free 1 2 3 x", "free x 2 3 4", "free 1 2 bypassed 3", "free bad bad bad"},
		"move":  {"move", "move 1 2", "move x", "move -1", "move bad"},
		"scan":  {"scan 1", "scan scan", "scan 0 1 2"}, "seen": {"seen 0", "seen 0 1 2", "seen seen"}, "show": {"show 1", "show drum"},
		"block": {"block"}, "cycle": {"cycle x", "cycle 1 x", "cycle -1", "cycle true"},
		"save": {"save", "save 1 2", "save 12", "save x", "save 01"}, "load": {"load", "load 3 3", "load 33", "load x", "load 03"},
		"none": {"x", "Drum 1 2 3", "drums 1 2 3", "0", "1 2 3", "in a bool", "do n not a", "out n", "saved 1", "\x00", "\xff\xfe", "ä", "show\t", "\tshow", "show\r", "show\v", "show\u00a0", "drum\t1\t2\t3", "drum 1\t2 3", "guard 1 2 3 4\r"},
	}
	at := func(line string) string {
		return script(t, strings.Join(slices.Concat(begun, []string{line}, probes), "\n")+"\n")
	}
	plain := strings.Split(at(""), "\n")
	for name, lines := range wrong {
		for _, line := range lines {
			said := strings.Split(at(line), "\n")
			if len(said) != len(plain)+1 || said[len(begun)] != "what" || !slices.Equal(slices.Delete(said, len(begun), len(begun)+1), plain) {
				t.Errorf("%s: %q says %q", name, line, said)
			}
		}
	}
	for name, lines := range good {
		for _, line := range lines {
			if said := strings.Split(at(line), "\n"); len(said) != len(plain)+1 || said[len(begun)] == "what" {
				t.Errorf("%s: %q says %q", name, line, said)
			}
		}
	}
}

func TestP26Numbers(t *testing.T) {
	for _, c := range []struct {
		word  string
		right bool
		value int64
	}{
		{"0", true, 0}, {"7", true, 7}, {"00", true, 0}, {"007", true, 7}, {"0000007", true, 7}, {"0000000", true, 0}, {"999999", true, 999999}, {"1000000", true, 1000000}, {"0999999", true, 999999},
		{"00000007", false, 0}, {"00000000", false, 0}, {"10000000", false, 0}, {"12345678", false, 0}, {"99999999999999999999", false, 0}, {"-1", false, 0}, {"-0", false, 0}, {"+1", false, 0}, {"+", false, 0}, {"-", false, 0},
		{"1.0", false, 0}, {"1e3", false, 0}, {"0x1", false, 0}, {"1_0", false, 0}, {"1,", false, 0}, {"a", false, 0}, {"1a", false, 0}, {"a1", false, 0}, {"٣", false, 0}, {"１", false, 0}, {"1/", false, 0}, {"1:", false, 0}, {"NaN", false, 0}, {"inf", false, 0},
	} {
		said, begin := "what", strconv.FormatInt(c.value, 10)
		if c.right {
			said = "water " + begin + " steam 0 level " + begin
		}
		tells(t, "drum "+c.word+" 0 0", said)
		for _, line := range []string{"guard 0 0 " + c.word + " 0", "free " + c.word + " 0 0 0"} {
			want := "what"
			if c.right {
				want = "good"
			}
			tells(t, line, want)
		}
		moved := "no"
		if !c.right {
			moved = "what"
		} else if c.value == 7 {
			moved = "pos 0"
		}
		tells(t, "move "+c.word, moved)
		outs := "what"
		if c.right {
			outs = "outs " + begin
		}
		tells(t, "block in a int", "ok", "block out a", "ok", "cycle "+c.word, outs)
	}
}

func TestP26Blanks(t *testing.T) {
	for _, c := range []struct {
		text string
		said string
	}{
		{"", ""}, {"\n", ""}, {"\n\n\n", ""}, {"   \n", ""}, {" \n  \n", ""}, {"  show  \n", "drum 0 0 burner 0 guard 0 pos 0 now 0\n"},
		{"   drum    1   2     3 \n", "water 1 steam 0 level 1\n"}, {"\n\ndrum 1 2 3\n   \n\nscan\n", "water 1 steam 0 level 1\nfirst 2 told 2\n"},
		{"\t\n", "what\n"}, {"\r\n", "what\n"}, {"\v\n", "what\n"}, {"\f\n", "what\n"}, {"\u00a0\n", "what\n"}, {"\u2003\n", "what\n"}, {"\x00\n", "what\n"}, {"show\r\n", "what\n"}, {"move\t5\n", "what\n"}, {"\tmove 5\n", "what\n"}, {"move 5\u00a0\n", "what\n"},
		{"block in\ta bool\n", "code 2 line 1\n"}, {"block in a bool\r\n", "code 2 line 1\n"}, {"block \t\n", "code 2 line 1\n"}, {"block    \n", "what\n"}, {"  block   in  a    bool  \ncycle  1  \n", "ok\nouts\n"},
	} {
		if said := script(t, c.text); said != c.said {
			t.Errorf("%q says %q, not %q", c.text, said, c.said)
		}
	}
}

func TestP26TooLong(t *testing.T) {
	filled := func(n int) string {
		return strings.Repeat("scan\n", 3) + strings.Repeat(" ", n-16) + "\n"
	}
	for _, c := range []struct {
		name string
		text string
		long bool
	}{
		{"empty", "", false}, {"one", "show\n", false}, {"not ended", "show", true}, {"the last one is not ended", "show\nshow", true}, {"a last one of blanks", "show\n ", true}, {"a blank alone", " ", true},
		{"59 lines", strings.Repeat("scan\n", 59), false}, {"60 lines", strings.Repeat("scan\n", 60), false}, {"61 lines", strings.Repeat("scan\n", 61), true}, {"60 lines and one that is not ended", strings.Repeat("scan\n", 60) + "scan", true},
		{"60 empty lines", strings.Repeat("\n", 60), false}, {"61 empty lines", strings.Repeat("\n", 61), true}, {"60 lines, one of them empty", strings.Repeat("scan\n", 59) + "\n", false}, {"61 lines, one of them empty", "\n" + strings.Repeat("scan\n", 60), true}, {"8000 empty lines", strings.Repeat("\n", 8000), true},
		{"7999 bytes", filled(7999), false}, {"8000 bytes", filled(8000), false}, {"8001 bytes", filled(8001), true}, {"8000 bytes, not ended", strings.TrimSuffix(filled(8001), "\n"), true},
		{"one word of 8000", strings.Repeat("x", 7999) + "\n", false}, {"one word of 8001", strings.Repeat("x", 8000) + "\n", true}, {"a block of 8000", "block " + strings.Repeat("x", 7993) + "\n", false}, {"a block of 8001", "block " + strings.Repeat("x", 7994) + "\n", true},
		{"many bytes", strings.Repeat("x", 100000), true},
	} {
		said, shown := script(t, c.text), impl.Final(c.text)
		if (said == "too long\n") != c.long || (shown == "") != c.long {
			t.Errorf("%s: %q, %q", c.name, said, shown)
		}
	}
	if said := impl.Simulate(strings.Repeat("scan\n", 60)); strings.Count(said, "\n") != 60 || !strings.HasPrefix(said, "first 2 told 2\nfirst 2 told\n") {
		t.Error(said)
	}
	if shown := impl.Final(strings.Repeat("scan\n", 60)); shown != "drum 0 0 burner 0 guard 0 pos 0 now 60" {
		t.Error(shown)
	}
	if shown := impl.Final(""); shown != "drum 0 0 burner 0 guard 0 pos 0 now 0" {
		t.Error(shown)
	}
}

func TestP26FinalTold(t *testing.T) {
	for _, c := range []struct {
		text  string
		shown string
	}{
		{"drum 10 300 4\n", "drum 0 6 burner 0 guard 0 pos 0 now 0"}, {"burn flame\n", "drum 0 0 burner 4 guard 0 pos 0 now 0"}, {"guard bad bad 0 0\n", "drum 0 0 burner 0 guard 1 pos 0 now 0"}, {"seen\nscan\n", "drum 0 0 burner 0 guard 0 pos 0 now 2"},
		{"foo\n\n  \n", "drum 0 0 burner 0 guard 0 pos 0 now 0"}, {"save 1\ndrum 1 0 0\nload 1\n", "drum 0 0 burner 0 guard 0 pos 0 now 0"}, {"drum 1 0 0\nsave 1\nscan\nload 2\n", "drum 1 0 burner 0 guard 0 pos 0 now 1"}, {"drum 1 0 0", ""},
		{"burn start\nburn air\nburn air\nburn air\nburn air\nburn air gas\nburn air gas flame\nmove 60\n", "drum 0 0 burner 3 guard 0 pos 60 now 0"},
	} {
		if shown := impl.Final(c.text); shown != c.shown {
			t.Errorf("%q: %q, not %q", c.text, shown, c.shown)
		}
	}
}

// somePool are lines of all kinds, the good ones more often than the others.
func somePool() []string {
	return []string{
		"drum 10 0 0", "drum 40 300 0", "drum 0 900 5", "drum 30 1000000 12", "drum 0 0 1000", "drum 0 1000001 0", "drum 1 2", "burn start", "burn air gas", "burn air gas", "burn air gas", "burn air gas", "burn air gas flame", "burn air gas flame", "burn air gas flame", "burn", "burn stop", "burn reset", "burn flame air", "burn air air",
		"guard 0 0 0 0", "guard 101 95 0 0", "guard 95 101 bad 0", "guard bypass 101 bypass 95", "guard bad bad bypass bypass", "free 0 0 0 0", "free 90 91 95 0", "free bad 0 bypass 95", "guard 1 2 3", "move 5", "move 60", "move 100", "move 0", "move 101", "move", "scan", "scan", "seen", "seen", "scan 1",
		"block in a bool", "block in b int", "block do n count a", "block do m hold a r", "block do r rise a", "block do g gt b n", "block do l lastint n", "block set k 5", "block do s add b k", "block do p pick g s n", "block out n", "block out p", "block out g", "block out s", "block do n not a", "block foo", "block",
		"cycle", "cycle 1", "cycle 0", "cycle 1 7", "cycle 1 7", "cycle 0 3", "cycle 1 9999999", "cycle x", "save 0", "save 1", "save 1", "load 0", "load 1", "load 1", "load 2", "load 11", "show", "show", "foo", "", "   ",
	}
}

func someScript(seed int64, n int) []string {
	pool, lines := somePool(), []string{}
	for _, i := range someNumbers(seed, n, 0, int64(len(pool))-1) {
		lines = append(lines, pool[i])
	}
	return lines
}

// litScript begins with a burner that is on, and blocks that remember.
func litScript(seed int64, n int) []string {
	begun := []string{"burn start", "burn air", "burn air", "burn air", "burn air", "burn air gas", "burn air gas flame", "block in a bool", "block in b int", "block do n count a", "block do l lastint n", "block out n", "block out l"}
	return append(begun, someScript(seed, n)...)
}

func endedLines(lines []string) string {
	text := ""
	for _, line := range lines {
		text += line + "\n"
	}
	return text
}

func TestP26SomeScripts(t *testing.T) {
	for seed := range int64(150) {
		script(t, endedLines(someScript(seed, int(seed%60)+1)))
		script(t, endedLines(litScript(seed, int(seed%47)+1)))
	}
}

// TestP26StaysSaid: what comes behind changes nothing of what was said.
func TestP26StaysSaid(t *testing.T) {
	for seed := range int64(25) {
		lines := litScript(seed+900, 47)
		whole := impl.Simulate(endedLines(lines))
		for n := range lines {
			begun := impl.Simulate(endedLines(lines[:n]))
			if !strings.HasPrefix(whole, begun) {
				t.Errorf("%q\n%q", begun, whole)
			}
			shown := impl.Simulate(endedLines(append(slices.Clone(lines[:n]), "show")))
			if last := impl.Final(endedLines(lines[:n])); shown != begun+last+"\n" {
				t.Errorf("%q\n%q\n%q", begun, last, shown)
			}
		}
	}
}

// TestP26SnapshotsBringBack: behind a load a script goes on as it would have behind
// the save, whatever stood between them.
func TestP26SnapshotsBringBack(t *testing.T) {
	for seed := range int64(80) {
		begun, between, behind := litScript(seed+400, 8), someScript(seed+500, 18), someScript(seed+600, 18)
		touches := func(line string) bool {
			return strings.HasPrefix(line, "save") || strings.HasPrefix(line, "load")
		}
		between, behind = slices.DeleteFunc(between, touches), slices.DeleteFunc(behind, touches)
		saved := append(begun, "save 6")
		ahead := impl.Simulate(endedLines(saved))
		straight := strings.TrimPrefix(impl.Simulate(endedLines(slices.Concat(saved, behind))), ahead)
		ahead = impl.Simulate(endedLines(slices.Concat(saved, between, []string{"load 6"})))
		if !strings.HasSuffix(ahead, "\nloaded 6\n") {
			t.Error(ahead)
		}
		back := strings.TrimPrefix(impl.Simulate(endedLines(slices.Concat(saved, between, []string{"load 6"}, behind))), ahead)
		if back != straight {
			t.Errorf("seed %d: %q\n%q", seed, back, straight)
		}
		if a, b := impl.Final(endedLines(slices.Concat(saved, between, []string{"load 6"}, behind))), impl.Final(endedLines(slices.Concat(saved, behind))); a != b {
			t.Errorf("seed %d: %q\n%q", seed, a, b)
		}
	}
}

// TestP26NothingIsKept: scripts at the same time and one behind the other do not
// know of each other.
func TestP26NothingIsKept(t *testing.T) {
	texts, wants := []string{}, []string{}
	for seed := range int64(8) {
		texts = append(texts, endedLines(litScript(seed+70, 40)))
		want, _ := wantSaid(texts[seed])
		wants = append(wants, want)
	}
	var all sync.WaitGroup
	got := make([][8]string, 8)
	for i := range got {
		all.Go(func() {
			for k := range texts {
				got[i][k] = impl.Simulate(texts[(i+k)%8])
			}
		})
	}
	all.Wait()
	for i := range got {
		for k := range texts {
			if got[i][k] != wants[(i+k)%8] {
				t.Errorf("%q\n%q", got[i][k], wants[(i+k)%8])
			}
		}
	}
	if said := impl.Simulate("load 0\nload 1\ncycle\nshow\n"); said != "none\nnone\nouts\ndrum 0 0 burner 0 guard 0 pos 0 now 0\n" {
		t.Error(said)
	}
}

func TestP26AllHaveEnded(t *testing.T) {
	before := runtime.NumGoroutine()
	for seed := range int64(40) {
		impl.Simulate(endedLines(litScript(seed, 40)))
		impl.Final("guard 1 2 3 4\nshow")
	}
	for range 5000 {
		// One that has closed its channel may still be on its way out.
		if runtime.NumGoroutine() <= before {
			return
		}
		time.Sleep(time.Millisecond)
	}
	t.Error(before, runtime.NumGoroutine())
}
