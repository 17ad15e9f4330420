package tests

import (
	"math"
	"slices"
	"strconv"
	"strings"
	"testing"

	"loop.example/g00942/impl"
)

// leftColumns has for boards with as many columns as its index how many of them, from the left, lie on the blue side.
var leftColumns = []int{0, 1, 1, 2, 2, 3, 3, 4, 4, 5}

// knownRun is what a run does, followed by the letters of its board.
type knownRun struct {
	// machines are the one before the first step, and the one behind each step.
	machines []impl.Machine
	colours  []int
	ends     []impl.Fall
}

func (r knownRun) last() impl.Machine { return r.machines[len(r.ends)] }

// arrivals are the columns in which marbles arrive, their colours, and the numbers of steps behind which they have arrived.
func (r knownRun) arrivals() (columns, colours, steps []int) {
	for i, end := range r.ends {
		if end.End == 1 {
			columns, colours, steps = append(columns, end.Column), append(colours, r.colours[i]), append(steps, i+1)
		}
	}
	return columns, colours, steps
}

func knownNext(end impl.Fall, columns int) int {
	switch {
	case end.End != 1:
		return 2
	case end.Column < leftColumns[columns]:
		return 0
	}
	return 1
}

// runOf follows the run of a machine whose board has the given lines.
func runOf(lines []string, m impl.Machine) knownRun {
	numbers, _ := knownGroups(lines)
	hoppers, next := [2]int{m.Blue, m.Red}, m.Next
	r := knownRun{machines: []impl.Machine{m}}
	for next < 2 && hoppers[next] > 0 {
		way := knownFall(lines, numbers, [2]int{m.Left, m.Right}[next])
		hoppers[next]--
		r.colours, r.ends = append(r.colours, next), append(r.ends, way.end)
		lines, next = way.after, knownNext(way.end, len(lines[0]))
		r.machines = append(r.machines, machineWith(lines, m.Left, m.Right, hoppers[0], hoppers[1], next))
	}
	return r
}

func machineWith(lines []string, left, right, blue, red, next int) impl.Machine {
	return impl.Machine{Board: boardWith(lines...), Left: left, Right: right, Blue: blue, Red: red, Next: next}
}

func sameMachines(a, b impl.Machine) bool {
	return sameBoards(a.Board, b.Board) && sameNumbers(a, b)
}

func sameNumbers(a, b impl.Machine) bool {
	return [5]int{a.Left, a.Right, a.Blue, a.Red, a.Next} == [5]int{b.Left, b.Right, b.Blue, b.Red, b.Next}
}

func copyMachine(m impl.Machine) impl.Machine {
	m.Board = copyBoard(m.Board)
	return m
}

// forMachines calls check for machines with boards of all sizes, and for all machines with a few small boards.
func forMachines(check func(lines []string, m impl.Machine)) {
	seed := uint32(0)
	forFallSizes(func(b impl.Board, lines []string) {
		seed++
		l := marblesFor(2, b.Columns, seed)
		check(lines, machineWith(lines, l[0], l[1], int(seed%7), int(seed/7%6), int(seed/42)%2))
		check(lines, machineWith(lines, l[1], l[0], 5, 4, int(seed)%2))
	})
	forEachBoard(1, 1, ".lrfFxogGc", func(_ impl.Board, lines []string) { forHoppers(3, 3, lines, check) })
	forEachBoard(1, 2, ".lrfFxogGc", func(_ impl.Board, lines []string) { forHoppers(3, 2, lines, check) })
	forEachBoard(2, 1, ".lFog", func(_ impl.Board, lines []string) { forHoppers(2, 3, lines, check) })
	forEachBoard(2, 2, ".rFg", func(_ impl.Board, lines []string) { forHoppers(1, 3, lines, check) })
	forEachBoard(1, 3, ".lFgo", func(_ impl.Board, lines []string) { forHoppers(2, 2, lines, check) })
}

// forHoppers calls check for all entries and Nexts, and for few marbles: less than the given numbers, or 6 of each colour.
func forHoppers(blue, red int, lines []string, check func(lines []string, m impl.Machine)) {
	columns := len(lines[0])
	for i := range columns * columns * 3 {
		left, right, next := i/3%columns, i/3/columns, i%3
		for k := range blue * red {
			check(lines, machineWith(lines, left, right, k%blue, k/blue, next))
		}
		check(lines, machineWith(lines, left, right, 6, 6, next))
	}
}

func checkMachine(t *testing.T, name string, m impl.Machine, ok bool, want impl.Machine) {
	t.Helper()
	if !ok || !sameMachines(m, want) {
		t.Errorf("%s = %v, %v; want %v", name, m, ok, want)
	}
}

func checkNoMachine(t *testing.T, name string, m impl.Machine, ok bool) {
	t.Helper()
	checkNoBoard(t, name, m.Board, ok)
	if !sameNumbers(m, impl.Machine{}) {
		t.Errorf("%s = %v; want no machine", name, m)
	}
}

func checkStep(t *testing.T, m, want impl.Machine, wantEnd impl.Fall) {
	t.Helper()
	after, end, ok := impl.StepMachine(m)
	checkMachine(t, "StepMachine", after, ok, want)
	if end != wantEnd {
		t.Errorf("StepMachine(%v) ends at %v; want %v", m, end, wantEnd)
	}
}

func checkNoStep(t *testing.T, m impl.Machine) {
	t.Helper()
	after, end, ok := impl.StepMachine(m)
	checkNoMachine(t, "StepMachine", after, ok)
	if end != (impl.Fall{}) {
		t.Errorf("StepMachine(%v) ends at %v; want none", m, end)
	}
}

func checkRunBy(t *testing.T, m impl.Machine, n int, want impl.Machine, wantSteps int) {
	t.Helper()
	after, steps, ok := impl.RunMachine(m, n)
	checkMachine(t, "RunMachine by "+strconv.Itoa(n), after, ok, want)
	if steps != wantSteps {
		t.Errorf("RunMachine(%v, %d) makes %d steps; want %d", m, n, steps, wantSteps)
	}
}

func checkNoRunBy(t *testing.T, m impl.Machine, n int) {
	t.Helper()
	after, steps, ok := impl.RunMachine(m, n)
	checkNoMachine(t, "RunMachine by "+strconv.Itoa(n), after, ok)
	if steps != 0 {
		t.Errorf("RunMachine(%v, %d) makes %d steps; want none", m, n, steps)
	}
}

func checkToEnd(t *testing.T, m, want impl.Machine, wantSteps int) {
	t.Helper()
	after, steps, ok := impl.RunToEnd(m)
	checkMachine(t, "RunToEnd", after, ok, want)
	if steps != wantSteps {
		t.Errorf("RunToEnd(%v) makes %d steps; want %d", m, steps, wantSteps)
	}
}

func checkArrived(t *testing.T, m impl.Machine, wantBlue, wantRed int) {
	t.Helper()
	if blue, red, ok := impl.ArrivedColours(m); !ok || blue != wantBlue || red != wantRed {
		t.Errorf("ArrivedColours(%v) = %d, %d, %v; want %d, %d", m, blue, red, ok, wantBlue, wantRed)
	}
}

func checkEnd(t *testing.T, m impl.Machine, want int) {
	t.Helper()
	if end, ok := impl.EndOfRun(m); !ok || end != want {
		t.Errorf("EndOfRun(%v) = %d, %v; want %d", m, end, ok, want)
	}
}

// checkFirstIn checks the first arrival in a column; 0 stands for none.
func checkFirstIn(t *testing.T, m impl.Machine, column, want int) {
	t.Helper()
	if n, ok := impl.FirstArrivalIn(m, column); n != want || ok != (want > 0) {
		t.Errorf("FirstArrivalIn(%v, %d) = %d, %v; want %d", m, column, n, ok, want)
	}
}

func checkColours(t *testing.T, m impl.Machine, want ...int) {
	t.Helper()
	l, ok := impl.ReleasedColours(m)
	checkNumbers(t, "ReleasedColours", l, ok, want)
}

func checkArrivals(t *testing.T, m impl.Machine, want ...int) {
	t.Helper()
	l, ok := impl.ArrivalColumns(m)
	checkNumbers(t, "ArrivalColumns", l, ok, want)
}

// checkTold checks all that the functions tell of a run without its machines.
func checkTold(t *testing.T, m impl.Machine, want knownRun) {
	t.Helper()
	columns, colours, steps := want.arrivals()
	checkColours(t, m, want.colours...)
	checkArrivals(t, m, columns...)
	red := 0
	for _, colour := range colours {
		red += colour
	}
	checkArrived(t, m, len(colours)-red, red)
	checkEnd(t, m, want.last().Next/2)
	for column := -1; column <= m.Board.Columns; column++ {
		first := 0
		if i := slices.Index(columns, column); i >= 0 {
			first = steps[i]
		}
		checkFirstIn(t, m, column, first)
	}
}

func TestMachineConstants(t *testing.T) {
	if impl.MaxHopper != 30 {
		t.Error("MaxHopper", impl.MaxHopper)
	}
}

func TestRunsOfMachines(t *testing.T) {
	forMachines(func(lines []string, m impl.Machine) {
		if !impl.IsMachine(m) {
			t.Errorf("IsMachine(%v) = false", m)
		}
		want := runOf(lines, m)
		n := len(want.ends)
		for i, end := range want.ends {
			checkStep(t, want.machines[i], want.machines[i+1], end)
		}
		checkNoStep(t, want.last())
		for i := range n + 3 {
			checkRunBy(t, m, i, want.machines[min(i, n)], min(i, n))
		}
		checkRunBy(t, m, 60, want.last(), n)
		checkToEnd(t, m, want.last(), n)
		checkTold(t, m, want)
	})
}

// stepsAlone makes steps until none is possible, or until there are n; it returns the machine, the colours as the hoppers tell them, and the ends.
func stepsAlone(t *testing.T, m impl.Machine, n int) (impl.Machine, []int, []impl.Fall) {
	t.Helper()
	colours, ends := []int{}, []impl.Fall{}
	for range n {
		after, end, ok := impl.StepMachine(m)
		if !ok {
			break
		}
		if after.Blue+after.Red != m.Blue+m.Red-1 || after.Blue < m.Blue-1 || after.Red < m.Red-1 {
			t.Fatalf("a step leads from %v to %v", m, after)
		}
		colours, ends = append(colours, m.Red-after.Red), append(ends, end)
		m = after
	}
	return m, colours, ends
}

// TestRunsAreMadeOfSingleSteps looks at the promise itself: what is told of runs is compared with single steps, and these with marbles alone.
func TestRunsAreMadeOfSingleSteps(t *testing.T) {
	forMachines(func(_ []string, m impl.Machine) {
		last, colours, ends := stepsAlone(t, m, 1000)
		checkToEnd(t, m, last, len(ends))
		for n := 0; n <= 60; n += 1 + n/6 {
			after, _, made := stepsAlone(t, m, n)
			checkRunBy(t, m, n, after, len(made))
			// The rest of the run is the same from there on.
			checkToEnd(t, after, last, len(ends)-len(made))
		}
		checkTold(t, m, knownRun{machines: slices.Repeat([]impl.Machine{last}, len(ends)+1), colours: colours, ends: ends})
		state := m
		for i, end := range ends {
			entry := [2]int{m.Left, m.Right}[colours[i]]
			checkFall(t, state.Board, entry, end)
			board, _ := impl.BoardAfter(state.Board, entry)
			state, _, _ = impl.StepMachine(state)
			if !sameBoards(board, state.Board) || state.Next != knownNext(end, m.Board.Columns) {
				t.Fatalf("step %d of %v leads to %v", i, m, state)
			}
		}
	})
}

// TestNextFollowsFromTheColumn has a marble of each colour arrive in each column of boards of all widths.
func TestNextFollowsFromTheColumn(t *testing.T) {
	for columns := 1; columns <= 9; columns++ {
		lines := []string{strings.Repeat(".", columns)}
		for column := range columns {
			next := 0
			if column >= leftColumns[columns] {
				next = 1
			}
			checkStep(t, machineWith(lines, column, 0, 2, 2, 0), machineWith(lines, column, 0, 1, 2, next), atBottom(1, column))
			checkStep(t, machineWith(lines, 0, column, 2, 2, 1), machineWith(lines, 0, column, 2, 1, next), atBottom(1, column))
		}
	}
}

// TestColumnsAroundTheMiddle writes down what is just half of the columns, and what is beside it.
func TestColumnsAroundTheMiddle(t *testing.T) {
	even, odd := []string{"........"}, []string{"......."}
	for column, next := range map[int]int{0: 0, 3: 0, 4: 1, 5: 1, 7: 1} {
		checkStep(t, machineWith(even, column, 0, 1, 0, 0), machineWith(even, column, 0, 0, 0, next), atBottom(1, column))
	}
	for column, next := range map[int]int{0: 0, 2: 0, 3: 0, 4: 1, 6: 1} {
		checkStep(t, machineWith(odd, 0, column, 0, 1, 1), machineWith(odd, 0, column, 0, 0, next), atBottom(1, column))
	}
	// The column at the bottom counts, not the one of entry.
	moved := []string{".r..l."}
	checkStep(t, machineWith(moved, 1, 4, 1, 1, 0), machineWith(moved, 1, 4, 0, 1, 0), atBottom(1, 2))
	checkStep(t, machineWith(moved, 1, 4, 1, 1, 1), machineWith(moved, 1, 4, 1, 0, 1), atBottom(1, 3))
	crossed := []string{"..r...", "...x..", "......"}
	checkStep(t, machineWith(crossed, 2, 0, 1, 0, 0), machineWith(crossed, 2, 0, 0, 0, 1), atBottom(3, 4))
}

func TestDocumentExampleOfMachines(t *testing.T) {
	lines := []string{"rl"}
	m := machineWith(lines, 0, 1, 2, 2, 0)
	checkColours(t, m, 0, 1, 0, 1)
	checkArrivals(t, m, 1, 0, 1, 0)
	checkEnd(t, m, 0)
	checkArrived(t, m, 2, 2)
	checkToEnd(t, m, machineWith(lines, 0, 1, 0, 0, 0), 4)
	checkFirstIn(t, m, 1, 1)
	checkFirstIn(t, m, 0, 2)
	if s, ok := impl.MachineText(m); !ok || s != "0 1 2 2 0\nrl\n" {
		t.Errorf("MachineText = %q, %v", s, ok)
	}
	// With more red marbles it is the blue ones that are used up.
	checkToEnd(t, machineWith(lines, 0, 1, 2, 5, 0), machineWith(lines, 0, 1, 0, 3, 0), 4)
}

// checkStands checks a machine that makes no step.
func checkStands(t *testing.T, lines []string, m impl.Machine, end int) {
	t.Helper()
	if !impl.IsMachine(m) {
		t.Errorf("IsMachine(%v) = false", m)
	}
	checkNoStep(t, m)
	for _, n := range []int{0, 1, 2, 59, 60} {
		checkRunBy(t, m, n, m, 0)
	}
	checkToEnd(t, m, m, 0)
	checkTold(t, m, knownRun{machines: []impl.Machine{m}})
	checkEnd(t, m, end)
	checkMachineText(t, lines, m)
}

func TestMachinesThatStand(t *testing.T) {
	for _, lines := range [][]string{{"."}, {"f"}, {"rl"}, {"oo"}, {"gcG.F", "....."}} {
		last := len(lines[0]) - 1
		for next, end := range []int{0, 0, 1} {
			checkStands(t, lines, machineWith(lines, 0, last, 0, 0, next), end)
		}
		// The other colour is not taken instead.
		checkStands(t, lines, machineWith(lines, 0, last, 0, 30, 0), 0)
		checkStands(t, lines, machineWith(lines, 0, last, 30, 0, 1), 0)
		for _, n := range []int{1, 7, 30} {
			checkStands(t, lines, machineWith(lines, 0, last, n, n, 2), 1)
		}
	}
}

func TestOneHopperEmpty(t *testing.T) {
	lines := []string{"...."}
	// Blue marbles that call for blue ones go on to the last one, and one that calls for a red one ends the run.
	checkToEnd(t, machineWith(lines, 1, 2, 5, 0, 0), machineWith(lines, 1, 2, 0, 0, 0), 5)
	checkToEnd(t, machineWith(lines, 2, 1, 5, 0, 0), machineWith(lines, 2, 1, 4, 0, 1), 1)
	checkToEnd(t, machineWith(lines, 1, 3, 0, 6, 1), machineWith(lines, 1, 3, 0, 0, 1), 6)
	checkToEnd(t, machineWith(lines, 1, 0, 0, 6, 1), machineWith(lines, 1, 0, 0, 5, 0), 1)
	for _, m := range []impl.Machine{machineWith(lines, 2, 1, 5, 0, 0), machineWith(lines, 1, 0, 0, 6, 1)} {
		checkEnd(t, m, 0)
	}
}

func TestMostMarblesOfMachines(t *testing.T) {
	lines := []string{"rl"}
	m := machineWith(lines, 0, 1, 30, 30, 0)
	for n := 0; n <= 60; n++ {
		after := machineWith(lines, 0, 1, 30-(n+1)/2, 30-n/2, n%2)
		checkRunBy(t, m, n, after, n)
		checkToEnd(t, after, machineWith(lines, 0, 1, 0, 0, 0), 60-n)
	}
	checkColours(t, m, slices.Repeat([]int{0, 1}, 30)...)
	checkArrivals(t, m, slices.Repeat([]int{1, 0}, 30)...)
	checkArrived(t, m, 30, 30)
	checkEnd(t, m, 0)
	checkRunBy(t, machineWith(lines, 0, 1, 30, 30, 1), 60, machineWith(lines, 0, 1, 0, 0, 1), 60)
	straight := []string{"....", "...."}
	checkToEnd(t, machineWith(straight, 0, 3, 30, 30, 0), machineWith(straight, 0, 3, 0, 30, 0), 30)
	for _, letters := range fallLetters {
		for _, columns := range []int{1, 2, 5, 9} {
			for seed := range uint32(6) {
				lines := gearLines(1+int(seed)*columns%10, columns, letters, seed)
				l := marblesFor(2, columns, seed)
				for next := range 2 {
					most := machineWith(lines, l[0], l[1], 30, 30, next)
					want := runOf(lines, most)
					checkToEnd(t, most, want.last(), len(want.ends))
					checkRunBy(t, most, 60, want.last(), len(want.ends))
					checkRunBy(t, most, 29, want.machines[min(29, len(want.ends))], min(29, len(want.ends)))
					checkTold(t, most, want)
				}
			}
		}
	}
}

// checkHalts checks a machine whose first marble does not arrive.
func checkHalts(t *testing.T, m, after impl.Machine, end impl.Fall) {
	t.Helper()
	checkStep(t, m, after, end)
	checkNoStep(t, after)
	checkRunBy(t, m, 0, m, 0)
	checkRunBy(t, m, 1, after, 1)
	checkRunBy(t, m, 60, after, 1)
	checkToEnd(t, m, after, 1)
	checkTold(t, m, knownRun{machines: []impl.Machine{m, after}, colours: []int{m.Next}, ends: []impl.Fall{end}})
	checkArrivals(t, m)
	checkArrived(t, m, 0, 0)
	checkEnd(t, m, 1)
}

func TestFirstMarbleThatDoesNotArrive(t *testing.T) {
	stop := []string{"..", "o."}
	checkHalts(t, machineWith(stop, 0, 1, 4, 4, 0), machineWith(stop, 0, 1, 3, 4, 2), inStop(1, 0))
	checkHalts(t, machineWith(stop, 1, 0, 4, 4, 1), machineWith(stop, 1, 0, 4, 3, 2), inStop(1, 0))
	lost := []string{"..", "lr"}
	checkHalts(t, machineWith(lost, 0, 1, 4, 4, 0), machineWith(lost, 0, 1, 3, 4, 2), lostAt(1, -1))
	checkHalts(t, machineWith(lost, 0, 1, 4, 4, 1), machineWith(lost, 0, 1, 4, 3, 2), lostAt(1, 2))
	// What it has turned is in the machine behind it; with the last marble the run ends by Next all the same.
	turned := []string{"F.", ".o"}
	checkHalts(t, machineWith(turned, 0, 1, 1, 0, 0), machineWith([]string{"f.", ".o"}, 0, 1, 0, 0, 2), inStop(1, 1))
	gears := []string{"gcG"}
	checkHalts(t, machineWith(gears, 0, 2, 0, 1, 1), machineWith([]string{"Gcg"}, 0, 2, 0, 0, 2), lostAt(0, 3))
}

func TestLaterMarbleThatDoesNotArrive(t *testing.T) {
	// The flip sends the second marble into the stop: it is released, and does not arrive.
	lines := []string{".f.", "...", "..."}
	m := machineWith([]string{".f.", "...", "..o"}, 1, 0, 9, 9, 0)
	checkStep(t, m, machineWith([]string{".F.", "...", "..o"}, 1, 0, 8, 9, 0), atBottom(3, 0))
	checkToEnd(t, m, machineWith([]string{".f.", "...", "..o"}, 1, 0, 7, 9, 2), 2)
	checkColours(t, m, 0, 0)
	checkArrivals(t, m, 0)
	checkArrived(t, m, 1, 0)
	checkEnd(t, m, 1)
	checkFirstIn(t, m, 2, 0)
	// Without the stop the red ones go on.
	open := machineWith(lines, 1, 0, 9, 1, 0)
	checkColours(t, open, 0, 0, 1, 0, 0)
	checkArrivals(t, open, 0, 2, 0, 0, 2)
	checkArrived(t, open, 4, 1)
	checkEnd(t, open, 0)
	checkToEnd(t, open, machineWith(lines, 1, 0, 5, 0, 1), 5)
}

func TestEntriesThatAreTheSameColumn(t *testing.T) {
	lines := []string{".f.", "..."}
	m := machineWith(lines, 1, 1, 3, 3, 0)
	checkColours(t, m, 0, 0, 1, 0, 1)
	checkArrivals(t, m, 0, 2, 0, 2, 0)
	checkToEnd(t, m, machineWith([]string{".F.", "..."}, 1, 1, 0, 1, 0), 5)
	checkArrived(t, m, 3, 2)
	straight := []string{"...."}
	checkToEnd(t, machineWith(straight, 1, 1, 3, 3, 1), machineWith(straight, 1, 1, 0, 2, 0), 4)
	checkToEnd(t, machineWith(straight, 2, 2, 3, 3, 0), machineWith(straight, 2, 2, 2, 0, 1), 4)
}

func TestMachinesOfOneCell(t *testing.T) {
	after := map[string]string{"l": "l", "r": "r", "o": "o", "f": "F", "F": "f", "g": "G", "G": "g"}
	ends := map[string]impl.Fall{"l": lostAt(0, -1), "f": lostAt(0, -1), "g": lostAt(0, -1), "r": lostAt(0, 1), "F": lostAt(0, 1), "G": lostAt(0, 1), "o": inStop(0, 0)}
	for letter, end := range ends {
		lines, behind := []string{letter}, []string{after[letter]}
		checkHalts(t, machineWith(lines, 0, 0, 5, 6, 0), machineWith(behind, 0, 0, 4, 6, 2), end)
		checkHalts(t, machineWith(lines, 0, 0, 5, 6, 1), machineWith(behind, 0, 0, 5, 5, 2), end)
	}
	for _, letter := range []string{".", "x", "c"} {
		checkOneColumn(t, []string{letter})
	}
}

// checkOneColumn checks a board of one column through which all marbles go: the column is the left half, so that at most one red one is released.
func checkOneColumn(t *testing.T, lines []string) {
	t.Helper()
	m := machineWith(lines, 0, 0, 30, 30, 0)
	checkToEnd(t, m, machineWith(lines, 0, 0, 0, 30, 0), 30)
	checkColours(t, m, make([]int, 30)...)
	checkArrivals(t, m, make([]int, 30)...)
	checkArrived(t, m, 30, 0)
	red := machineWith(lines, 0, 0, 2, 30, 1)
	checkToEnd(t, red, machineWith(lines, 0, 0, 0, 29, 0), 3)
	checkColours(t, red, 1, 0, 0)
	checkArrived(t, red, 2, 1)
	checkFirstIn(t, red, 0, 1)
}

func TestMachinesOfOneColumn(t *testing.T) {
	for _, lines := range [][]string{{".", "x", "c"}, slices.Repeat([]string{"."}, 10)} {
		checkOneColumn(t, lines)
	}
	lines := []string{".", "f", "o"}
	checkHalts(t, machineWith(lines, 0, 0, 2, 2, 1), machineWith([]string{".", "F", "o"}, 0, 0, 2, 1, 2), lostAt(1, -1))
}

func TestPartsThatManyMarblesTurn(t *testing.T) {
	flip := []string{".f..", "...."}
	m := machineWith(flip, 1, 1, 30, 30, 0)
	checkToEnd(t, m, machineWith([]string{".F..", "...."}, 1, 1, 0, 1, 0), 59)
	checkRunBy(t, m, 58, machineWith(flip, 1, 1, 0, 2, 1), 58)
	// Each marble turns both gears, so that each gear sends its own marbles to the same side always.
	joined := []string{".gccg.", "......"}
	m = machineWith(joined, 4, 1, 30, 30, 0)
	checkArrivals(t, m, slices.Repeat([]int{3, 2}, 30)...)
	checkRunBy(t, m, 59, machineWith([]string{".GccG.", "......"}, 4, 1, 0, 1, 1), 59)
	checkToEnd(t, m, machineWith(joined, 4, 1, 0, 0, 0), 60)
	apart := []string{".g..g.", "......"}
	m = machineWith(apart, 4, 1, 30, 30, 0)
	checkArrivals(t, m, slices.Repeat([]int{3, 0, 5, 2}, 15)...)
	checkRunBy(t, m, 59, machineWith([]string{".G..g.", "......"}, 4, 1, 0, 1, 1), 59)
	checkToEnd(t, m, machineWith(apart, 4, 1, 0, 0, 0), 60)
	// Marbles of one colour alone may turn the gear of the other one too.
	m = machineWith([]string{".gccG.", "......"}, 1, 4, 29, 30, 0)
	checkArrivals(t, m, slices.Repeat([]int{0, 2}, 15)[:29]...)
	checkToEnd(t, m, machineWith([]string{".Gccg.", "......"}, 1, 4, 0, 30, 0), 29)
	across := []string{"g.cg", "cccc", "rrll", "...."}
	m = machineWith(across, 3, 0, 30, 30, 0)
	want := runOf(across, m)
	checkToEnd(t, m, want.last(), len(want.ends))
	checkTold(t, m, want)
}

// TestFirstArrivals takes the first arrival from the runs of all numbers of steps.
func TestFirstArrivals(t *testing.T) {
	forMachines(func(_ []string, m impl.Machine) {
		first := make([]int, m.Board.Columns)
		_, steps, _ := impl.RunToEnd(m)
		for n := range steps {
			before, _, _ := impl.RunMachine(m, n)
			_, end, _ := impl.StepMachine(before)
			if end.End == 1 && first[end.Column] == 0 {
				first[end.Column] = n + 1
			}
		}
		for column, n := range first {
			checkFirstIn(t, m, column, n)
		}
	})
	lines := []string{"rl.", "...", "x.o"}
	m := machineWith(lines, 0, 1, 3, 3, 1)
	for column, n := range []int{1, 2, 0} {
		checkFirstIn(t, m, column, n)
	}
	// Neither a stop's column nor that of a lost marble is one of arrival.
	checkFirstIn(t, machineWith(lines, 2, 2, 3, 3, 0), 2, 0)
	checkFirstIn(t, machineWith([]string{"l"}, 0, 0, 1, 1, 0), -1, 0)
	checkFirstIn(t, machineWith([]string{"r"}, 0, 0, 1, 1, 0), 1, 0)
	both := machineWith([]string{".rl.", "...."}, 1, 2, 30, 30, 0)
	checkFirstIn(t, both, 2, 1)
	checkFirstIn(t, both, 1, 2)
	checkFirstIn(t, both, 0, 0)
	// Many flips must turn before a marble arrives in the column.
	flips := []string{".f.fr.", "rrfr.r", "rr.fff", "fffff.", "r.ffr.", "f.ffr."}
	late := machineWith(flips, 3, 0, 30, 30, 0)
	checkFirstIn(t, late, 4, 49)
	checkTold(t, late, runOf(flips, late))
	checkRunBy(t, late, 60, runOf(flips, late).last(), 59)
}

func TestColumnsThatMachinesDoNotHave(t *testing.T) {
	columns := append([]int{10, 89, 90, 1 << 62, -1 << 62}, wildNumbers...)
	for _, lines := range [][]string{{"."}, {"rl"}, {"l"}, {"r"}, {".f.", "..."}, {"........."}} {
		for _, column := range columns {
			if column >= 0 && column < len(lines[0]) {
				continue
			}
			for next := range 3 {
				checkFirstIn(t, machineWith(lines, 0, len(lines[0])-1, 5, 5, next), column, 0)
			}
		}
	}
}

func checkRefill(t *testing.T, m impl.Machine, blue, red int) {
	t.Helper()
	want := copyMachine(m)
	want.Blue, want.Red = want.Blue+blue, want.Red+red
	refilled, ok := impl.RefillMachine(m, blue, red)
	checkMachine(t, "RefillMachine", refilled, ok, want)
}

func checkNoRefill(t *testing.T, m impl.Machine, blue, red int) {
	t.Helper()
	refilled, ok := impl.RefillMachine(m, blue, red)
	checkNoMachine(t, "RefillMachine", refilled, ok)
}

func TestRefilledMachines(t *testing.T) {
	lines := []string{".f.", "g.o"}
	for blue := 0; blue <= 30; blue += 1 + blue/3 {
		for red := 0; red <= 30; red += 1 + red/4 {
			m := machineWith(lines, 2, 1, blue, red, (blue+red)%3)
			for moreBlue := range 33 {
				for moreRed := range 33 {
					if blue+moreBlue <= 30 && red+moreRed <= 30 {
						checkRefill(t, m, moreBlue, moreRed)
					} else {
						checkNoRefill(t, m, moreBlue, moreRed)
					}
				}
			}
		}
	}
}

func TestRefillsToTheLimits(t *testing.T) {
	for next := range 3 {
		m := machineWith([]string{"rl"}, 0, 1, 12, 7, next)
		for _, l := range [][2]int{{0, 0}, {18, 23}, {18, 0}, {0, 23}} {
			checkRefill(t, m, l[0], l[1])
		}
		for _, l := range [][2]int{{19, 0}, {0, 24}, {19, 24}, {18, 24}, {19, 23}, {30, 0}, {0, 30}} {
			checkNoRefill(t, m, l[0], l[1])
		}
		checkRefill(t, machineWith([]string{"rl"}, 0, 1, 0, 0, next), 30, 30)
		full := machineWith([]string{"rl"}, 0, 1, 30, 30, next)
		checkRefill(t, full, 0, 0)
		checkNoRefill(t, full, 1, 0)
		checkNoRefill(t, full, 0, 1)
	}
}

func TestWrongRefills(t *testing.T) {
	numbers := append([]int{29, 30, 31, 1 << 62, -1 << 62, math.MaxInt - 29, math.MaxInt - 30, math.MinInt + 30, -30, -29}, wildNumbers...)
	for _, hopper := range []int{0, 10, 30} {
		m := machineWith([]string{"rl"}, 0, 1, hopper, hopper, 0)
		for _, blue := range numbers {
			for _, red := range numbers {
				small := blue >= 0 && red >= 0 && blue <= 30 && red <= 30
				if small && hopper+blue <= 30 && hopper+red <= 30 {
					checkRefill(t, m, blue, red)
				} else {
					checkNoRefill(t, m, blue, red)
				}
			}
		}
	}
}

// TestRefilledMachinesGoOn runs machines that stopped for want of marbles; one whose Next is 2 stands for ever.
func TestRefilledMachinesGoOn(t *testing.T) {
	forMachines(func(_ []string, m impl.Machine) {
		last, _, _ := impl.RunToEnd(m)
		refilled, ok := impl.RefillMachine(last, 2, 3)
		want := copyMachine(last)
		want.Blue, want.Red = want.Blue+2, want.Red+3
		checkMachine(t, "RefillMachine", refilled, ok, want)
		_, _, ok = impl.StepMachine(refilled)
		if ok != (last.Next != 2) {
			t.Errorf("a step of %v is possible: %v", refilled, ok)
		}
	})
}

func checkMachineText(t *testing.T, lines []string, m impl.Machine) {
	t.Helper()
	want := ""
	for _, n := range []int{m.Left, m.Right, m.Blue, m.Red} {
		want += strconv.Itoa(n) + " "
	}
	want += strconv.Itoa(m.Next) + "\n" + linesText(lines)
	if s, ok := impl.MachineText(m); !ok || s != want {
		t.Errorf("MachineText(%v) = %q, %v; want %q", m, s, ok, want)
	}
}

func TestTextsOfMachines(t *testing.T) {
	forMachines(func(lines []string, m impl.Machine) { checkMachineText(t, lines, m) })
	lines := []string{"lF.......", "gcG.xo..r"}
	text, ok := impl.MachineText(machineWith(lines, 8, 3, 30, 10, 2))
	if !ok || text != "8 3 30 10 2\nlF.......\ngcG.xo..r\n" {
		t.Errorf("MachineText = %q, %v", text, ok)
	}
	text, ok = impl.MachineText(machineWith([]string{"."}, 0, 0, 0, 0, 0))
	if !ok || text != "0 0 0 0 0\n.\n" {
		t.Errorf("MachineText = %q, %v", text, ok)
	}
	last, _, _ := impl.RunToEnd(machineWith([]string{".f."}, 1, 1, 2, 2, 0))
	text, ok = impl.MachineText(last)
	if !ok || text != "1 1 0 1 0\n.F.\n" {
		t.Errorf("MachineText = %q, %v", text, ok)
	}
}

// checkMachineRefused checks that nothing is returned for an invalid machine.
func checkMachineRefused(t *testing.T, m impl.Machine) {
	t.Helper()
	if impl.IsMachine(m) {
		t.Errorf("IsMachine(%v) = true", m)
	}
	checkNoStep(t, m)
	for _, n := range []int{-1, 0, 1, 60, 61} {
		checkNoRunBy(t, m, n)
	}
	after, steps, ok := impl.RunToEnd(m)
	checkNoMachine(t, "RunToEnd", after, ok)
	colours, ok := impl.ReleasedColours(m)
	checkNoNumbers(t, "ReleasedColours", colours, ok)
	columns, ok := impl.ArrivalColumns(m)
	checkNoNumbers(t, "ArrivalColumns", columns, ok)
	blue, red, arrivedOK := impl.ArrivedColours(m)
	end, endOK := impl.EndOfRun(m)
	text, textOK := impl.MachineText(m)
	if steps != 0 || blue != 0 || red != 0 || arrivedOK || end != 0 || endOK || text != "" || textOK {
		t.Errorf("results for %v: %d steps, %d and %d arrive %v, end %d %v, text %q %v", m, steps, blue, red, arrivedOK, end, endOK, text, textOK)
	}
	checkNoRefill(t, m, 0, 0)
	checkNoRefill(t, m, 1, 1)
	for column := -1; column < 3; column++ {
		checkFirstIn(t, m, column, 0)
	}
}

// withNumber returns the machine with another number in one of its five fields.
func withNumber(m impl.Machine, field, n int) impl.Machine {
	*[]*int{&m.Left, &m.Right, &m.Blue, &m.Red, &m.Next}[field] = n
	return m
}

func TestNumbersOfMachines(t *testing.T) {
	numbers := append([]int{10, 29, 30, 31, 89, 90, 1 << 62, -1 << 62, -30, -31}, wildNumbers...)
	for _, lines := range [][]string{{"."}, {"rl"}, {"o", "f", "G"}, {".f.", "..."}, {"gcG.F.xlr"}, slices.Repeat([]string{"fF.xlr.gc"}, 10)} {
		columns := len(lines[0])
		for next := range 3 {
			for field, limit := range []int{columns - 1, columns - 1, 30, 30, 2} {
				for _, n := range numbers {
					m := withNumber(machineWith(lines, 0, columns-1, 3, 4, next), field, n)
					if n < 0 || n > limit {
						checkMachineRefused(t, m)
					} else if !impl.IsMachine(m) {
						t.Errorf("IsMachine(%v) = false", m)
					} else {
						checkTold(t, m, runOf(lines, m))
					}
				}
			}
		}
	}
}

func TestWrongNumbersOfSteps(t *testing.T) {
	numbers := append([]int{-60, -61, 61, 62, 120, 1 << 62, -1 << 62}, wildNumbers...)
	for _, lines := range [][]string{{"."}, {"rl"}, {"o"}} {
		for _, hopper := range []int{0, 2, 30} {
			m := machineWith(lines, 0, len(lines[0])-1, hopper, hopper, 0)
			want := runOf(lines, m)
			for _, n := range numbers {
				if n < 0 || n > 60 {
					checkNoRunBy(t, m, n)
				} else {
					made := min(n, len(want.ends))
					checkRunBy(t, m, n, want.machines[made], made)
				}
			}
		}
	}
}

func TestMachinesOfInvalidBoards(t *testing.T) {
	for _, b := range invalidBoards() {
		for next := range 3 {
			checkMachineRefused(t, impl.Machine{Board: b, Blue: 2, Red: 2, Next: next})
			checkMachineRefused(t, impl.Machine{Board: b, Left: max(b.Columns-1, 0), Blue: 30, Red: 30, Next: next})
		}
	}
	checkMachineRefused(t, impl.Machine{})
	checkMachineRefused(t, impl.Machine{Left: math.MinInt, Right: math.MaxInt, Blue: -1, Red: 1 << 40, Next: -7})
	short, _ := withSpare(impl.Board{Rows: 2, Columns: 3, Cells: make([]impl.Cell, 5)})
	checkMachineRefused(t, impl.Machine{Board: short, Blue: 1, Red: 1})
}

// machineResults is what all functions of the chapter return for a machine.
type machineResults struct {
	machines []impl.Machine
	lists    [][]int
	text     string
}

// callMachine calls every function of the chapter.
func callMachine(m impl.Machine) machineResults {
	valid := 0
	if impl.IsMachine(m) {
		valid = 1
	}
	step, fall, _ := impl.StepMachine(m)
	none, _, _ := impl.RunMachine(m, 0)
	few, steps, _ := impl.RunMachine(m, 3)
	last, all, _ := impl.RunToEnd(m)
	refilled, _ := impl.RefillMachine(m, 1, 0)
	same, _ := impl.RefillMachine(m, 0, 0)
	colours, _ := impl.ReleasedColours(m)
	columns, _ := impl.ArrivalColumns(m)
	blue, red, _ := impl.ArrivedColours(m)
	end, _ := impl.EndOfRun(m)
	first, _ := impl.FirstArrivalIn(m, m.Board.Columns/2)
	text, _ := impl.MachineText(m)
	numbers := []int{valid, fall.End, fall.Row, fall.Column, steps, all, blue, red, end, first}
	return machineResults{[]impl.Machine{step, none, few, last, refilled, same}, [][]int{colours, columns, numbers}, text}
}

func sameMachineResults(a, b machineResults) bool {
	return slices.EqualFunc(a.machines, b.machines, sameMachines) && slices.EqualFunc(a.lists, b.lists, slices.Equal) && a.text == b.text
}

func TestMachinesStayAsTheyAre(t *testing.T) {
	check := func(plain impl.Machine) {
		m := plain
		board, cells := withSpare(plain.Board)
		m.Board = board
		before := slices.Clone(cells)
		got := callMachine(m)
		if !slices.Equal(cells, before) {
			t.Fatalf("%v was changed, or what is behind it", plain)
		}
		if !sameMachineResults(got, callMachine(copyMachine(plain))) {
			t.Errorf("other results for %v with other memory behind it", plain)
		}
	}
	forMachines(func(_ []string, m impl.Machine) { check(m) })
	for _, b := range append(invalidBoards(), boardWith("fG", "cx")) {
		for _, n := range []int{0, 1, 31, -1, math.MinInt, math.MaxInt} {
			check(impl.Machine{Board: b, Left: n, Blue: 3, Red: 3})
			check(impl.Machine{Board: b, Blue: n, Red: n, Next: 1})
			check(impl.Machine{Board: b, Right: n, Blue: 3, Red: n, Next: n})
		}
	}
}

func TestMachineResultsShareNothing(t *testing.T) {
	forMachines(func(_ []string, plain impl.Machine) {
		m := plain
		board, cells := withSpare(plain.Board)
		m.Board = board
		before := slices.Clone(cells)
		got, want := callMachine(m), callMachine(plain)
		for i, r := range got.machines {
			overwrite(r.Board)
			for k := i + 1; k < len(got.machines); k++ {
				if !sameMachines(got.machines[k], want.machines[k]) {
					t.Fatalf("machines %d and %d of %v share cells", i, k, plain)
				}
			}
		}
		for _, l := range got.lists {
			clear(l[:cap(l)])
		}
		if !slices.Equal(cells, before) || !sameMachineResults(callMachine(m), want) {
			t.Fatalf("a result shares memory with %v", plain)
		}
	})
}
