package tests

import (
	"math"
	"regexp"
	"slices"
	"strconv"
	"strings"
	"testing"

	"loop.example/g00942/impl"
)

// fewEntries differ from the first one in one field each.
var fewEntries = []impl.LogEntry{blue(atBottom(1, 0)), red(atBottom(1, 0)), blue(inStop(1, 0)), blue(atBottom(2, 0)), blue(atBottom(1, -1))}

// lineForm is the form of a line of a log's text, without its newline.
var lineForm = regexp.MustCompile(`^(blue|red) (bottom|stop|lost) (10|[0-9]) (-|[0-9])$`)

// wordNumbers are the numbers of the words of a log's text.
var wordNumbers = map[string]int{"blue": 0, "red": 1, "bottom": 1, "stop": 2, "lost": 3, "-": -1, "0": 0, "1": 1, "2": 2, "3": 3, "4": 4, "5": 5, "6": 6, "7": 7, "8": 8, "9": 9, "10": 10}

func blue(end impl.Fall) impl.LogEntry { return impl.LogEntry{Fall: end} }
func red(end impl.Fall) impl.LogEntry  { return impl.LogEntry{Colour: 1, Fall: end} }

// entryWith returns an entry with any numbers, of no machine perhaps.
func entryWith(colour, end, row, column int) impl.LogEntry {
	return impl.LogEntry{Colour: colour, Fall: impl.Fall{End: end, Row: row, Column: column}}
}

// entryNumbers are the four numbers of an entry.
func entryNumbers(e impl.LogEntry) [4]int {
	return [4]int{e.Colour, e.Fall.End, e.Fall.Row, e.Fall.Column}
}

// entryFrom returns the entry with four numbers.
func entryFrom(l [4]int) impl.LogEntry { return entryWith(l[0], l[1], l[2], l[3]) }

// entriesFor returns n valid entries that follow no short pattern.
func entriesFor(n int, seed uint32) []impl.LogEntry {
	l := []impl.LogEntry{}
	for _, k := range marblesFor(n, 2*3*11*11, seed) {
		l = append(l, entryWith(k%2, 1+k/2%3, k/6%11, k/66-1))
	}
	return l
}

// entriesOf returns the entries of a run.
func entriesOf(r knownRun) []impl.LogEntry {
	l := []impl.LogEntry{}
	for i, end := range r.ends {
		l = append(l, impl.LogEntry{Colour: r.colours[i], Fall: end})
	}
	return l
}

// forLongRuns calls check for machines with many marbles, of which some release all.
func forLongRuns(check func(lines []string, m impl.Machine)) {
	check([]string{"rl"}, machineWith([]string{"rl"}, 0, 1, 30, 30, 0))
	check([]string{".f..", "...."}, machineWith([]string{".f..", "...."}, 1, 1, 30, 30, 0))
	check([]string{".g..g.", "......"}, machineWith([]string{".g..g.", "......"}, 4, 1, 30, 30, 0))
	flips := []string{".f.fr.", "rrfr.r", "rr.fff", "fffff.", "r.ffr.", "f.ffr."}
	check(flips, machineWith(flips, 3, 0, 30, 30, 0))
	for i, letters := range fallLetters {
		for seed := range uint32(10) {
			lines := gearLines(1+int(seed)*7%10, 2+i%8, letters, seed)
			l := marblesFor(2, len(lines[0]), seed)
			check(lines, machineWith(lines, l[0], l[1], 30, 29, int(seed%2)))
		}
	}
}

// forShortLogs calls check for all logs of the given entries up to a length, the empty one among them.
func forShortLogs(entries []impl.LogEntry, length int, check func(l []impl.LogEntry)) {
	logs := [][]impl.LogEntry{{}}
	for range length + 1 {
		longer := [][]impl.LogEntry{}
		for _, l := range logs {
			check(l)
			for _, e := range entries {
				longer = append(longer, slices.Concat(l, []impl.LogEntry{e}))
			}
		}
		logs = longer
	}
}

// lineOf returns the line of an entry, written out again from the document.
func lineOf(e impl.LogEntry) string {
	colour, end := [2]string{"blue", "red"}[e.Colour], [4]string{1: "bottom", 2: "stop", 3: "lost"}[e.Fall.End]
	column := strings.Split("- 0 1 2 3 4 5 6 7 8 9", " ")[e.Fall.Column+1]
	return colour + " " + end + " " + strconv.Itoa(e.Fall.Row) + " " + column + "\n"
}

func textOf(l []impl.LogEntry) string {
	s := ""
	for _, e := range l {
		s += lineOf(e)
	}
	return s
}

// readLog reads a text by the form of its lines.
func readLog(s string) ([]impl.LogEntry, bool) {
	if s == "" {
		return nil, true
	}
	text, ended := strings.CutSuffix(s, "\n")
	lines := strings.Split(text, "\n")
	if !ended || len(lines) > 60 {
		return nil, false
	}
	l := []impl.LogEntry{}
	for _, line := range lines {
		words := lineForm.FindStringSubmatch(line)
		if words == nil {
			return nil, false
		}
		l = append(l, entryWith(wordNumbers[words[1]], wordNumbers[words[2]], wordNumbers[words[3]], wordNumbers[words[4]]))
	}
	return l, true
}

// coloursText returns the colours of entries as digits.
func coloursText(l []impl.LogEntry) string {
	s := ""
	for _, e := range l {
		s += strconv.Itoa(e.Colour)
	}
	return s
}

// knownLongest looks for stretches of all lengths, the greatest ones first.
func knownLongest(l []impl.LogEntry) (int, int) {
	colours := coloursText(l)
	for n := len(l); n > 0; n-- {
		for i := 0; i+n <= len(l); i++ {
			if s := colours[i : i+n]; s == strings.Repeat("0", n) || s == strings.Repeat("1", n) {
				return i, n
			}
		}
	}
	return 0, 0
}

// repeats reports whether each entry is the same as the one p places before.
func repeats(l []impl.LogEntry, p int) bool {
	for i := p; i < len(l); i++ {
		if l[i] != l[i-p] {
			return false
		}
	}
	return true
}

func knownPeriod(l []impl.LogEntry) int {
	p := min(1, len(l))
	for !repeats(l, max(p, 1)) {
		p++
	}
	return p
}

// knownAgreeing is the length of the longest beginning of both logs.
func knownAgreeing(a, b []impl.LogEntry) int {
	n := min(len(a), len(b))
	for !slices.Equal(a[:n], b[:n]) {
		n--
	}
	return n
}

func checkLog(t *testing.T, name string, l []impl.LogEntry, ok bool, want []impl.LogEntry) {
	t.Helper()
	if !ok || !slices.Equal(l, want) {
		t.Errorf("%s = %v, %v; want %v", name, l, ok, want)
	}
}

func checkNoLog(t *testing.T, name string, l []impl.LogEntry, ok bool) {
	t.Helper()
	if ok || len(l) != 0 {
		t.Errorf("%s = %v, %v; want no log", name, l, ok)
	}
}

func checkLogOf(t *testing.T, m impl.Machine, want ...impl.LogEntry) {
	t.Helper()
	l, ok := impl.LogOf(m)
	checkLog(t, "LogOf", l, ok, want)
}

func checkEnds(t *testing.T, l []impl.LogEntry, want ...int) {
	t.Helper()
	counts, ok := impl.CountEnds(l)
	checkNumbers(t, "CountEnds", counts, ok, want)
}

func checkLongest(t *testing.T, l []impl.LogEntry, want, wantLength int) {
	t.Helper()
	if i, n, ok := impl.LongestColour(l); !ok || i != want || n != wantLength {
		t.Errorf("LongestColour(%v) = %d, %d, %v; want %d, %d", l, i, n, ok, want, wantLength)
	}
}

// checkAgreeing checks two logs in both orders.
func checkAgreeing(t *testing.T, a, b []impl.LogEntry, want int) {
	t.Helper()
	for _, l := range [][2][]impl.LogEntry{{a, b}, {b, a}} {
		if n, ok := impl.AgreeingEntries(l[0], l[1]); !ok || n != want {
			t.Errorf("AgreeingEntries(%v, %v) = %d, %v; want %d", l[0], l[1], n, ok, want)
		}
	}
}

func checkExplained(t *testing.T, m impl.Machine, l []impl.LogEntry, after impl.Machine) {
	t.Helper()
	if explains, ok := impl.ExplainsLog(m, l); !ok || !explains {
		t.Errorf("ExplainsLog(%v, %v) = %v, %v; want true", m, l, explains, ok)
	}
	replayed, ok := impl.ReplayLog(m, l)
	checkMachine(t, "ReplayLog", replayed, ok, after)
}

func checkNotExplained(t *testing.T, m impl.Machine, l []impl.LogEntry) {
	t.Helper()
	if explains, ok := impl.ExplainsLog(m, l); !ok || explains {
		t.Errorf("ExplainsLog(%v, %v) = %v, %v; want false", m, l, explains, ok)
	}
	replayed, ok := impl.ReplayLog(m, l)
	checkNoMachine(t, "ReplayLog", replayed, ok)
}

// checkExplainFails checks that a machine and a log are refused, of which one is invalid.
func checkExplainFails(t *testing.T, m impl.Machine, l []impl.LogEntry) {
	t.Helper()
	if explains, ok := impl.ExplainsLog(m, l); ok || explains {
		t.Errorf("ExplainsLog(%v, %v) = %v, %v; want none", m, l, explains, ok)
	}
	replayed, ok := impl.ReplayLog(m, l)
	checkNoMachine(t, "ReplayLog", replayed, ok)
}

// checkPeriod checks the period of a log; 0 stands for none.
func checkPeriod(t *testing.T, l []impl.LogEntry, want int) {
	t.Helper()
	if p, ok := impl.PeriodOf(l); p != want || ok != (want > 0) {
		t.Errorf("PeriodOf(%v) = %d, %v; want %d", l, p, ok, want)
	}
}

func checkChanges(t *testing.T, l []impl.LogEntry, want ...int) {
	t.Helper()
	indices, ok := impl.ColoursChange(l)
	checkNumbers(t, "ColoursChange of "+coloursText(l), indices, ok, want)
}

// checkLogText checks the text of a log, and that it is read back.
func checkLogText(t *testing.T, l []impl.LogEntry, want string) {
	t.Helper()
	if s, ok := impl.LogText(l); !ok || s != want {
		t.Errorf("LogText(%v) = %q, %v; want %q", l, s, ok, want)
	}
	back, ok := impl.ParseLog(want)
	checkLog(t, "ParseLog", back, ok, l)
}

// checkRead checks what is read from a text, by the form of its lines, and reports whether it is a log's.
func checkRead(t *testing.T, s string) bool {
	t.Helper()
	l, ok := impl.ParseLog(s)
	want, isText := readLog(s)
	if !isText {
		checkNoLog(t, "ParseLog of "+strconv.Quote(s[:min(len(s), 200)]), l, ok)
		return false
	}
	checkLog(t, "ParseLog of "+strconv.Quote(s), l, ok, want)
	// What is read back is that log's own text.
	if own, ok := impl.LogText(l); !ok || own != s {
		t.Errorf("LogText of what is read from %q is %q, %v", s, own, ok)
	}
	return true
}

// checkEntries checks all that is told of one log.
func checkEntries(t *testing.T, l []impl.LogEntry) {
	t.Helper()
	if !impl.IsLog(l) {
		t.Errorf("IsLog(%v) = false", l)
	}
	counts, changes := [4]int{}, []int{}
	for i, e := range l {
		counts[e.Fall.End]++
		if i > 0 && l[i-1].Colour != e.Colour {
			changes = append(changes, i)
		}
	}
	checkEnds(t, l, counts[1:]...)
	checkChanges(t, l, changes...)
	first, length := knownLongest(l)
	checkLongest(t, l, first, length)
	checkPeriod(t, l, knownPeriod(l))
	checkLogText(t, l, textOf(l))
	checkAgreeing(t, l, l, len(l))
	checkAgreeing(t, l, nil, 0)
}

func TestLogConstants(t *testing.T) {
	if impl.MaxLog != 60 {
		t.Error("MaxLog", impl.MaxLog)
	}
}

func TestLogsOfMachines(t *testing.T) {
	check := func(lines []string, m impl.Machine) {
		want := runOf(lines, m)
		l := entriesOf(want)
		checkLogOf(t, m, l...)
		checkEntries(t, l)
		for n, after := range want.machines {
			checkExplained(t, m, l[:n], after)
			checkAgreeing(t, l, l[:n], n)
		}
	}
	forMachines(check)
	forLongRuns(check)
}

// TestLogsTellAllSteps looks at the promise itself: entries are compared with single steps, and replayed logs with runs.
func TestLogsTellAllSteps(t *testing.T) {
	check := func(_ []string, m impl.Machine) {
		l, ok := impl.LogOf(m)
		_, steps, _ := impl.RunToEnd(m)
		if !ok || len(l) != steps || !impl.IsLog(l) {
			t.Fatalf("LogOf(%v) = %v, %v; the run has %d steps", m, l, ok, steps)
		}
		state := m
		for i, e := range l {
			after, end, ok := impl.StepMachine(state)
			if !ok || e.Colour != state.Next || e.Fall != end {
				t.Fatalf("entry %d of %v is %v; a step leads to %v", i, m, e, end)
			}
			run, _, _ := impl.RunMachine(m, i+1)
			checkExplained(t, m, l[:i+1], run)
			// The rest of the log is that of the machine behind the step.
			checkLogOf(t, after, l[i+1:]...)
			state = after
		}
		counts, _ := impl.CountEnds(l)
		blues, reds, _ := impl.ArrivedColours(m)
		if counts[0]+counts[1]+counts[2] != len(l) || counts[0] != blues+reds {
			t.Errorf("CountEnds(%v) = %v", l, counts)
		}
	}
	forMachines(check)
	forLongRuns(check)
}

func TestDocumentExampleOfLogs(t *testing.T) {
	lines := []string{"rl"}
	m := machineWith(lines, 0, 1, 2, 2, 0)
	l := []impl.LogEntry{blue(atBottom(1, 1)), red(atBottom(1, 0)), blue(atBottom(1, 1)), red(atBottom(1, 0))}
	checkLogOf(t, m, l...)
	checkLogText(t, l, "blue bottom 1 1\nred bottom 1 0\nblue bottom 1 1\nred bottom 1 0\n")
	checkPeriod(t, l, 2)
	checkExplained(t, m, l[:3], machineWith(lines, 0, 1, 0, 1, 1))
	checkPeriod(t, slices.Repeat([]impl.LogEntry{red(lostAt(3, -1))}, 5), 1)
}

func TestLogsWithEachEnd(t *testing.T) {
	stop := machineWith([]string{".f.", "...", "..o"}, 1, 0, 9, 9, 0)
	checkLogOf(t, stop, blue(atBottom(3, 0)), blue(inStop(2, 2)))
	checkLogText(t, []impl.LogEntry{blue(atBottom(3, 0)), blue(inStop(2, 2))}, "blue bottom 3 0\nblue stop 2 2\n")
	left := machineWith([]string{"l"}, 0, 0, 3, 3, 1)
	checkLogOf(t, left, red(lostAt(0, -1)))
	checkLogText(t, []impl.LogEntry{red(lostAt(0, -1))}, "red lost 0 -\n")
	right := machineWith([]string{"........r"}, 8, 8, 3, 3, 0)
	checkLogOf(t, right, blue(lostAt(0, 9)))
	checkLogText(t, []impl.LogEntry{blue(lostAt(0, 9))}, "blue lost 0 9\n")
	high := slices.Repeat([]string{"........."}, 10)
	deep := machineWith(high, 0, 8, 0, 2, 1)
	checkLogOf(t, deep, red(atBottom(10, 8)), red(atBottom(10, 8)))
	checkLogText(t, []impl.LogEntry{red(atBottom(10, 8)), red(atBottom(10, 8))}, "red bottom 10 8\nred bottom 10 8\n")
}

// TestEntries takes each entry that there is alone, whether or not a marble can end so.
func TestEntries(t *testing.T) {
	entries := 0
	for colour := range 2 {
		for end := 1; end <= 3; end++ {
			for row := range 11 {
				for column := -1; column <= 9; column++ {
					e := entryWith(colour, end, row, column)
					checkEntries(t, []impl.LogEntry{e})
					checkEntries(t, []impl.LogEntry{fewEntries[0], e})
					entries++
				}
			}
		}
	}
	if entries != 726 {
		t.Error(entries, "entries")
	}
}

func TestShortLogs(t *testing.T) {
	forShortLogs(fewEntries, 4, func(l []impl.LogEntry) { checkEntries(t, l) })
	// Entries of one Colour with different Falls are one stretch, and no period.
	forShortLogs([]impl.LogEntry{fewEntries[0], fewEntries[1], fewEntries[3]}, 7, func(l []impl.LogEntry) { checkEntries(t, l) })
	forShortLogs(fewEntries[:2], 10, func(l []impl.LogEntry) { checkEntries(t, l) })
}

func TestLongLogs(t *testing.T) {
	for n := range 61 {
		for seed := range uint32(5) {
			checkEntries(t, entriesFor(n, seed*977+uint32(n)))
		}
		for k := 1; k <= 9; k++ {
			l := slices.Repeat(entriesFor(k, uint32(k)), 60)[:n]
			checkEntries(t, l)
			if n > k {
				l[n-1] = entryWith(1-l[n-1].Colour, 1, 5, 5)
				checkEntries(t, l)
			}
		}
	}
}

func TestPairsOfLogs(t *testing.T) {
	logs := [][]impl.LogEntry{}
	forShortLogs(fewEntries, 3, func(l []impl.LogEntry) { logs = append(logs, l) })
	for _, a := range logs {
		for _, b := range logs {
			checkAgreeing(t, a, b, knownAgreeing(a, b))
		}
	}
}

// TestLogsThatDifferInOneEntry changes each number of each entry.
func TestLogsThatDifferInOneEntry(t *testing.T) {
	for _, n := range []int{1, 2, 7, 59, 60} {
		l := entriesFor(n, uint32(n))
		for i, e := range l {
			for _, changed := range otherEntries(e) {
				other := slices.Clone(l)
				other[i] = changed
				checkAgreeing(t, l, other, i)
				checkAgreeing(t, l[:i], other, i)
				checkAgreeing(t, l[:i+1], other, i)
				// The other entries behind it are the same again: they do not count.
				checkAgreeing(t, append(slices.Clone(other[:i+1]), l[i+1:]...), l, i)
			}
		}
		for i := range n + 1 {
			checkAgreeing(t, l[:i], l, i)
		}
	}
}

// otherEntries returns valid entries that differ from one in one number.
func otherEntries(e impl.LogEntry) []impl.LogEntry {
	l := []impl.LogEntry{}
	for field, numbers := range [4][]int{{0, 1}, {1, 2, 3}, {0, 1, 5, 10}, {-1, 0, 4, 9}} {
		for _, n := range append(numbers, entryNumbers(e)[field]-1, entryNumbers(e)[field]+1) {
			other := entryNumbers(e)
			other[field] = n
			if other != entryNumbers(e) && impl.IsLog([]impl.LogEntry{entryFrom(other)}) {
				l = append(l, entryFrom(other))
			}
		}
	}
	return l
}

// checkOtherLogs checks that a machine explains no log that differs from its own in one entry, or has one more.
func checkOtherLogs(t *testing.T, m impl.Machine) {
	t.Helper()
	l, _ := impl.LogOf(m)
	for i, e := range l {
		others := otherEntries(e)
		if len(others) < 6 {
			t.Fatalf("only %d entries beside %v", len(others), e)
		}
		for _, other := range others {
			changed := slices.Clone(l)
			changed[i] = other
			checkNotExplained(t, m, changed)
			checkNotExplained(t, m, changed[:i+1])
		}
	}
	more := slices.Clone(fewEntries)
	if len(l) > 0 {
		more = append(more, l[0], l[len(l)-1])
	}
	for _, e := range more {
		longer := append(slices.Clone(l), e)
		if len(l) == 60 {
			checkExplainFails(t, m, longer)
		} else {
			checkNotExplained(t, m, longer)
		}
	}
}

func TestMachinesExplainNoOtherLogs(t *testing.T) {
	n := 0
	some := func(_ []string, m impl.Machine) {
		if n++; n%5 == 1 {
			checkOtherLogs(t, m)
		}
	}
	forMachines(some)
	// A machine with 60 entries is the first one here.
	n = 0
	forLongRuns(some)
}

// TestMachinesOfOneLog has machines that differ, and whose logs are the same or begin alike.
func TestMachinesOfOneLog(t *testing.T) {
	lines := []string{"...."}
	m := machineWith(lines, 1, 3, 3, 0, 0)
	l := slices.Repeat([]impl.LogEntry{blue(atBottom(1, 1))}, 3)
	checkLogOf(t, m, l...)
	other := machineWith(lines, 1, 0, 5, 7, 0)
	checkExplained(t, other, l, machineWith(lines, 1, 0, 2, 7, 0))
	checkExplained(t, machineWith([]string{".fof"}, 2, 0, 3, 3, 0), nil, machineWith([]string{".fof"}, 2, 0, 3, 3, 0))
	// The ends are the same, and the board turned.
	flip := machineWith([]string{".f..", "r.l."}, 1, 1, 3, 3, 0)
	checkExplained(t, flip, []impl.LogEntry{blue(atBottom(2, 1))}, machineWith([]string{".F..", "r.l."}, 1, 1, 2, 3, 0))
	checkNotExplained(t, flip, l[:1])
}

func TestEmptyLogs(t *testing.T) {
	for _, l := range [][]impl.LogEntry{nil, {}, entriesFor(60, 1)[:0]} {
		checkEntries(t, l)
		checkEnds(t, l, 0, 0, 0)
		checkLongest(t, l, 0, 0)
		checkPeriod(t, l, 0)
		checkChanges(t, l)
		checkLogText(t, l, "")
		checkAgreeing(t, l, nil, 0)
		checkAgreeing(t, l, []impl.LogEntry{}, 0)
		checkAgreeing(t, l, entriesFor(60, 2), 0)
		for next := range 3 {
			m := machineWith([]string{".f.", "gcG"}, 1, 2, 4, 5, next)
			checkExplained(t, m, l, m)
		}
	}
}

func TestLogsOfMachinesThatStand(t *testing.T) {
	for _, lines := range [][]string{{"."}, {"f"}, {"rl"}, {"oo"}, {"gcG.F", "....."}} {
		last := len(lines[0]) - 1
		for _, m := range []impl.Machine{
			machineWith(lines, 0, last, 0, 0, 0), machineWith(lines, 0, last, 0, 0, 1), machineWith(lines, 0, last, 0, 30, 0),
			machineWith(lines, 0, last, 30, 0, 1), machineWith(lines, 0, last, 30, 30, 2), machineWith(lines, 0, last, 0, 0, 2),
		} {
			checkLogOf(t, m)
			checkExplained(t, m, nil, m)
			checkOtherLogs(t, m)
			// Nor does it explain what it would do if it made a step.
			end, _ := impl.FallOf(m.Board, 0)
			checkNotExplained(t, m, []impl.LogEntry{blue(end)})
			checkNotExplained(t, m, []impl.LogEntry{red(end)})
		}
	}
}

func TestMostEntries(t *testing.T) {
	lines := []string{"rl"}
	m := machineWith(lines, 0, 1, 30, 30, 0)
	l := slices.Repeat([]impl.LogEntry{blue(atBottom(1, 1)), red(atBottom(1, 0))}, 30)
	checkLogOf(t, m, l...)
	checkEntries(t, l)
	checkEnds(t, l, 60, 0, 0)
	checkPeriod(t, l, 2)
	checkExplained(t, m, l, machineWith(lines, 0, 1, 0, 0, 0))
	checkExplained(t, m, l[:59], machineWith(lines, 0, 1, 0, 1, 1))
	text := textOf(l)
	for _, n := range []int{61, 62, 120, 1000, 100000} {
		many := slices.Repeat(l, n/60+1)[:n]
		checkLogRefused(t, many)
	}
	for _, behind := range []string{lineOf(l[0]), "\n", "red", " ", "\x00", text, strings.Repeat(text, 1000), strings.Repeat("\n", 100000)} {
		checkRead(t, text+behind)
		checkRead(t, behind+text)
	}
	if checkRead(t, text+lineOf(l[0])) || !checkRead(t, text) || !checkRead(t, textOf(l[1:])) {
		t.Error("61 lines are read, or 60 or 59 are not")
	}
}

func TestPeriodsOfLogs(t *testing.T) {
	a, b, c := fewEntries[0], fewEntries[1], fewEntries[2]
	same := slices.Repeat([]impl.LogEntry{c}, 60)
	for n := 1; n <= 60; n++ {
		checkPeriod(t, same[:n], 1)
		// The last one is another one, so that the period is the whole length.
		checkPeriod(t, slices.Concat(same[:n-1], []impl.LogEntry{a}), n)
	}
	checkPeriod(t, []impl.LogEntry{a, b, a, b, a}, 2)
	checkPeriod(t, []impl.LogEntry{a, b, c, a, b}, 3)
	checkPeriod(t, []impl.LogEntry{a, b, c, a}, 3)
	checkPeriod(t, []impl.LogEntry{a, a, b, a, a, b, a}, 3)
	checkPeriod(t, []impl.LogEntry{a, a, b, a, a}, 3)
	checkPeriod(t, []impl.LogEntry{a, a, b, a, b}, 5)
	checkPeriod(t, []impl.LogEntry{a, b, c}, 3)
	checkPeriod(t, []impl.LogEntry{a, b, b, a}, 3)
	// An entry with another Row, Column, End or Colour alone is not the same.
	for _, e := range fewEntries[1:] {
		checkPeriod(t, []impl.LogEntry{a, a, a, e}, 4)
		checkPeriod(t, []impl.LogEntry{a, e, a, e}, 2)
	}
}

func TestColoursOfLogs(t *testing.T) {
	logOf := func(colours string) []impl.LogEntry {
		l := entriesFor(len(colours), 5)
		for i := range l {
			l[i].Colour = int(colours[i] - '0')
		}
		return l
	}
	checkLongest(t, logOf("0"), 0, 1)
	checkLongest(t, logOf("1"), 0, 1)
	checkLongest(t, logOf("01"), 0, 1)
	checkLongest(t, logOf("011"), 1, 2)
	checkLongest(t, logOf("00110"), 0, 2)
	checkLongest(t, logOf("0110011100011"), 5, 3)
	checkLongest(t, logOf("10000"), 1, 4)
	checkChanges(t, logOf("0"))
	checkChanges(t, logOf("10"), 1)
	checkChanges(t, logOf("0110011100011"), 1, 3, 5, 8, 11)
	for n := 1; n <= 60; n++ {
		for _, colour := range []string{"0", "1"} {
			l := logOf(strings.Repeat(colour, n))
			checkLongest(t, l, 0, n)
			checkChanges(t, l)
		}
	}
}

func TestTextsOfLogs(t *testing.T) {
	if l, ok := impl.ParseLog(""); !ok || len(l) != 0 {
		t.Errorf("ParseLog of an empty text = %v, %v", l, ok)
	}
	wrong := []string{
		"\n", " ", "\n\n", "blue bottom 1 1", "blue bottom 1 1\n\n", "\nblue bottom 1 1\n", "blue bottom 1 1\n\nred lost 0 -\n", "blue bottom 1 1\nred lost 0 -",
		" blue bottom 1 1\n", "blue  bottom 1 1\n", "blue bottom  1 1\n", "blue bottom 1  1\n", "blue bottom 1 1 \n", "bluebottom 1 1\n", "blue bottom1 1\n", "blue bottom 11\n",
		"blue bottom 01 1\n", "blue bottom 1 01\n", "blue bottom 00 1\n", "blue bottom 010 1\n", "blue bottom +1 1\n", "blue bottom 1 +1\n", "blue bottom -0 1\n", "blue bottom 1 -0\n", "blue bottom - 1\n",
		"blue lost 0 -1\n", "blue lost 0 --\n", "blue lost -1 0\n", "blue lost 0 -\r\n", "blue lost 0 -\r", "blue\tlost\t0\t-\n", "blue lost 0\n", "blue lost\n", "blue\n", "blue lost 0 - -\n", "blue lost 0 - 1\n",
		"green lost 0 -\n", "Blue lost 0 -\n", "BLUE lost 0 -\n", "bluered lost 0 -\n", "0 lost 0 -\n", "blue left 0 -\n", "blue Lost 0 -\n", "blue 3 0 -\n", "lost blue 0 -\n", " lost 0 -\n", "blue  0 -\n", "blue lost  -\n", "blue lost 0 \n", "   \n",
		"blue lost 11 -\n", "blue lost 0 10\n", "blue lost 100 -\n", "blue lost 0 18446744073709551616\n", "blue lost 18446744073709551617 1\n", "blue lost 4294967296 1\n", "blue lost 0 4294967297\n", "blue lost 256 1\n",
		"blue lost 9223372036854775807 1\n", "blue lost 0 9223372036854775808\n", "blue lost -9223372036854775808 1\n", "blue lost 0 -9223372036854775809\n", "blue lost 0x1 1\n", "blue lost 1_0 1\n", "blue lost 1e0 1\n", "blue lost 1.0 1\n", "blue lost a 1\n", "blue lost ١ 1\n", "blue lost 0 −\n",
		"blue lost 0 -\x00\n", "blue lost 0 -\n\x00", "blue lost 0 -\nred", "blue lost 0 -;red lost 0 -\n", "\ufeffblue lost 0 -\n", "blue\u00a0lost 0 -\n",
	}
	for _, s := range wrong {
		valid := lineOf(fewEntries[2])
		for _, text := range []string{s, valid + s, s + valid, valid + s + valid} {
			if checkRead(t, text) {
				t.Errorf("%q is read", text)
			}
		}
	}
}

// TestLinesOfAllWords puts words of all kinds together, wrong ones among them.
func TestLinesOfAllWords(t *testing.T) {
	colours := []string{"blue", "red", "", "blu", "redd", "0", "bottom", "-"}
	ends := []string{"bottom", "stop", "lost", "", "bottomstop", "1", "red", "los"}
	rows := []string{"0", "1", "9", "10", "11", "", "-", "-1", "-0", "+1", "01", "00", "010", "1 ", "18446744073709551616", "9223372036854775808", "99999999999999999999999999"}
	columns := []string{"-", "0", "1", "9", "10", "", "-1", "--", "-0", "+0", "00", "09", "- ", "18446744073709551615", "-9223372036854775809"}
	logs := 0
	for _, colour := range colours {
		for _, end := range ends {
			for _, row := range rows {
				for _, column := range columns {
					if checkRead(t, colour+" "+end+" "+row+" "+column+"\n") {
						logs++
					}
				}
			}
		}
	}
	if logs != 2*3*4*4 {
		t.Error(logs, "of the lines are logs")
	}
}

// TestChangedLogTexts puts each byte in place of each one of a text and before it, and leaves bytes out.
func TestChangedLogTexts(t *testing.T) {
	text := "blue bottom 1 1\nred lost 10 -\nblue stop 0 9\n"
	logs := 0
	for i := range len(text) {
		for b := range 256 {
			letter := string([]byte{byte(b)})
			if checkRead(t, text[:i]+letter+text[i+1:]) {
				logs++
			}
			checkRead(t, text[:i]+letter+text[i:])
			checkRead(t, text+letter)
		}
		checkRead(t, text[:i])
		checkRead(t, text[i+1:])
		checkRead(t, text[:i]+text[i+1:])
	}
	if logs < 70 {
		t.Errorf("only %d of the texts like %q are logs", logs, text)
	}
}

func TestLogTextsOfAnyBytes(t *testing.T) {
	line := lineOf(fewEntries[0])
	for _, s := range append(wrongLetters(), strings.Repeat("\xff", 100), strings.Repeat(" ", 100000), strings.Repeat("blue ", 100000), strings.Repeat("9", 100000), "blue lost 0 "+strings.Repeat("0", 100000)+"\n", strings.Repeat(line, 100000)) {
		checkRead(t, s)
		checkRead(t, s+line)
		checkRead(t, line+s)
		checkRead(t, line+s+"\n")
		checkRead(t, "blue "+s+" 1 1\n")
		checkRead(t, s+" lost 1 1\n")
		checkRead(t, "blue lost "+s+" 1\n")
		checkRead(t, "blue lost 1 "+s+"\n")
	}
}

// invalidLogs returns logs with an entry that has a number out of range.
func invalidLogs() [][]impl.LogEntry {
	numbers := append([]int{10, 11, 12, 29, 60, 1 << 62, -1 << 62, 1<<32 + 1}, wildNumbers...)
	logs := [][]impl.LogEntry{}
	for field, limits := range [4][2]int{{0, 1}, {1, 3}, {0, 10}, {-1, 9}} {
		for _, n := range numbers {
			if n >= limits[0] && n <= limits[1] {
				continue
			}
			for _, at := range [][2]int{{0, 1}, {0, 3}, {1, 3}, {2, 3}, {59, 60}} {
				l := entriesFor(at[1], 9)
				e := entryNumbers(l[at[0]])
				e[field] = n
				l[at[0]] = entryFrom(e)
				logs = append(logs, l)
			}
		}
	}
	return append(logs, make([]impl.LogEntry, 1), make([]impl.LogEntry, 60), make([]impl.LogEntry, 61), entriesFor(61, 4))
}

// checkLogRefused checks that no function takes entries, whatever else it is given.
func checkLogRefused(t *testing.T, l []impl.LogEntry) {
	t.Helper()
	if impl.IsLog(l) {
		t.Errorf("IsLog(%v) = true", l)
	}
	counts, ok := impl.CountEnds(l)
	checkNoNumbers(t, "CountEnds", counts, ok)
	changes, ok := impl.ColoursChange(l)
	checkNoNumbers(t, "ColoursChange", changes, ok)
	first, length, longestOK := impl.LongestColour(l)
	period, periodOK := impl.PeriodOf(l)
	text, textOK := impl.LogText(l)
	if first != 0 || length != 0 || longestOK || period != 0 || periodOK || text != "" || textOK {
		t.Errorf("results for %v: longest %d, %d, %v; period %d, %v; text %q, %v", l, first, length, longestOK, period, periodOK, text, textOK)
	}
	for _, other := range [][]impl.LogEntry{nil, l, slices.Clone(l), l[:0], fewEntries, entriesFor(60, 9), entriesFor(3, 9)} {
		for _, pair := range [][2][]impl.LogEntry{{l, other}, {other, l}} {
			if n, ok := impl.AgreeingEntries(pair[0], pair[1]); n != 0 || ok {
				t.Errorf("AgreeingEntries(%v, %v) = %d, %v", pair[0], pair[1], n, ok)
			}
		}
	}
	for _, m := range []impl.Machine{machineWith([]string{"rl"}, 0, 1, 30, 30, 0), machineWith([]string{"o"}, 0, 0, 1, 1, 0), machineWith([]string{"."}, 0, 0, 0, 0, 2), {}} {
		checkExplainFails(t, m, l)
	}
}

func TestInvalidLogs(t *testing.T) {
	for _, l := range invalidLogs() {
		checkLogRefused(t, l)
	}
}

// TestWrongEntryInTheLogOfAMachine has an invalid entry behind ones that the machine explains.
func TestWrongEntryInTheLogOfAMachine(t *testing.T) {
	m := machineWith([]string{"rl"}, 0, 1, 5, 5, 0)
	l, _ := impl.LogOf(m)
	for i := range l {
		for _, wrong := range []impl.LogEntry{{}, entryWith(2, 1, 1, 1), entryWith(0, 4, 1, 1), entryWith(0, 1, 11, 1), entryWith(0, 1, 1, 10), entryWith(0, 1, 1, -2), entryWith(-1, 1, 1, 1)} {
			changed := slices.Clone(l)
			changed[i] = wrong
			checkExplainFails(t, m, changed)
			checkExplainFails(t, m, changed[:i+1])
			checkLogRefused(t, changed)
		}
	}
}

func TestLogsOfInvalidMachines(t *testing.T) {
	check := func(m impl.Machine) {
		l, ok := impl.LogOf(m)
		checkNoLog(t, "LogOf", l, ok)
		for _, l := range [][]impl.LogEntry{nil, {}, fewEntries, entriesFor(60, 3), entriesFor(61, 3), {{}}} {
			checkExplainFails(t, m, l)
		}
	}
	for _, b := range invalidBoards() {
		for next := range 3 {
			check(impl.Machine{Board: b, Blue: 2, Red: 2, Next: next})
			check(impl.Machine{Board: b, Left: max(b.Columns-1, 0), Blue: 30, Red: 30, Next: next})
		}
	}
	for _, n := range []int{31, 32, -1, 100, math.MinInt, math.MaxInt, 1 << 32} {
		for field := range 5 {
			check(withNumber(machineWith([]string{"rl"}, 0, 1, 3, 3, 0), field, n))
		}
	}
	check(withNumber(machineWith([]string{"rl"}, 0, 1, 3, 3, 0), 0, 2))
	check(withNumber(machineWith([]string{"rl"}, 0, 1, 3, 3, 0), 1, 2))
	check(withNumber(machineWith([]string{"rl"}, 0, 1, 3, 3, 0), 4, 3))
	check(impl.Machine{})
}

// logWithSpare returns entries that have others behind them, and all of these.
func logWithSpare(l []impl.LogEntry) ([]impl.LogEntry, []impl.LogEntry) {
	whole := slices.Concat(l, l, fewEntries, []impl.LogEntry{{}, entryWith(-7, 77, math.MinInt, math.MaxInt)}, entriesFor(60, 8))
	return whole[:len(l)], whole
}

// logResults is what all functions of the chapter return for a machine and two logs.
type logResults struct {
	logs     [][]impl.LogEntry
	lists    [][]int
	machines []impl.Machine
	text     string
}

// callLogs calls every function of the chapter.
func callLogs(m impl.Machine, a, b []impl.LogEntry) logResults {
	impl.IsLog(a)
	own, _ := impl.LogOf(m)
	ends, _ := impl.CountEnds(a)
	longest, length, _ := impl.LongestColour(a)
	n, _ := impl.AgreeingEntries(a, b)
	impl.ExplainsLog(m, a)
	none, _ := impl.ReplayLog(m, nil)
	replayed, _ := impl.ReplayLog(m, a)
	again, _ := impl.ReplayLog(m, b)
	period, _ := impl.PeriodOf(a)
	changes, _ := impl.ColoursChange(a)
	text, _ := impl.LogText(a)
	read, _ := impl.ParseLog(text)
	return logResults{[][]impl.LogEntry{own, read}, [][]int{ends, changes, {longest, length, n, period}}, []impl.Machine{none, replayed, again}, text}
}

func sameLogResults(a, b logResults) bool {
	sameLogs, sameLists := slices.EqualFunc(a.logs, b.logs, slices.Equal), slices.EqualFunc(a.lists, b.lists, slices.Equal)
	return sameLogs && sameLists && slices.EqualFunc(a.machines, b.machines, sameMachines) && a.text == b.text
}

// forLogArguments calls check for machines with logs that they explain, and with others.
func forLogArguments(check func(m impl.Machine, a, b []impl.LogEntry)) {
	n := 0
	some := func(_ []string, m impl.Machine) {
		if n++; n%9 != 0 {
			return
		}
		l, _ := impl.LogOf(m)
		check(m, l, l[:len(l)/2])
		check(m, l[:len(l)/2], l)
		check(m, l[:len(l)/2], entriesFor(n/9%62, uint32(n)))
	}
	forMachines(some)
	n = 8
	some([]string{"rl"}, machineWith([]string{"rl"}, 0, 1, 30, 30, 0))
	for _, l := range invalidLogs() {
		check(machineWith([]string{".f.", "gcG"}, 1, 2, 4, 5, 0), l, fewEntries)
		check(impl.Machine{Board: impl.Board{Rows: 1, Columns: 2, Cells: make([]impl.Cell, 1)}}, l, l[:1])
	}
}

func TestLogsStayAsTheyAre(t *testing.T) {
	forLogArguments(func(plain impl.Machine, first, second []impl.LogEntry) {
		m := plain
		board, cells := withSpare(plain.Board)
		m.Board = board
		a, whole := logWithSpare(first)
		b, other := logWithSpare(second)
		cellsBefore, before, otherBefore := slices.Clone(cells), slices.Clone(whole), slices.Clone(other)
		got := callLogs(m, a, b)
		if !slices.Equal(cells, cellsBefore) || !slices.Equal(whole, before) || !slices.Equal(other, otherBefore) {
			t.Fatalf("%v, %v or %v was changed, or what is behind it", plain, first, second)
		}
		if !sameLogResults(got, callLogs(copyMachine(plain), slices.Clone(first), slices.Clone(second))) {
			t.Errorf("other results for %v, %v and %v with other memory behind them", plain, first, second)
		}
	})
}

func TestLogResultsShareNothing(t *testing.T) {
	forLogArguments(func(plain impl.Machine, first, second []impl.LogEntry) {
		m := plain
		board, cells := withSpare(plain.Board)
		m.Board = board
		a, whole := logWithSpare(first)
		b, other := logWithSpare(second)
		cellsBefore, before, otherBefore := slices.Clone(cells), slices.Clone(whole), slices.Clone(other)
		got, want := callLogs(m, a, b), callLogs(plain, first, second)
		for i, r := range got.machines {
			overwrite(r.Board)
			for k := i + 1; k < len(got.machines); k++ {
				if !sameMachines(got.machines[k], want.machines[k]) {
					t.Fatalf("machines %d and %d of %v share cells", i, k, plain)
				}
			}
		}
		for _, l := range got.logs {
			clear(l[:cap(l)])
		}
		for _, l := range got.lists {
			clear(l[:cap(l)])
		}
		if !slices.Equal(cells, cellsBefore) || !slices.Equal(whole, before) || !slices.Equal(other, otherBefore) || !sameLogResults(callLogs(m, a, b), want) {
			t.Fatalf("a result shares memory with %v, %v or %v", plain, first, second)
		}
	})
}
