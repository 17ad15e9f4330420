package tests

import (
	"math"
	"slices"
	"strconv"
	"strings"
	"testing"

	"loop.example/g00942/impl"
)

// stateLetters are letters of boards with many and with few units, of flips, of gears, and of both.
var stateLetters = []string{"fFgGc.", "fFgGco", "gGc", "gG.", "f", "fF..", "gc..x", "cc.", "lrxo.", ".lrfFxogGc", "f.......o", "gf"}

// forStateBoards calls check for boards of all sizes and all stateLetters, and for all boards of a few small ones.
func forStateBoards(check func(b impl.Board, lines []string)) {
	for rows := 1; rows <= 10; rows++ {
		for columns := 1; columns <= 9; columns++ {
			for i, letters := range stateLetters {
				lines := gearLines(rows, columns, letters, uint32(rows*5000+columns*300+i))
				check(boardWith(lines...), lines)
			}
		}
	}
	forEachBoard(1, 4, "fFgGc.", check)
	forEachBoard(2, 2, "fFgGc.", check)
	forEachBoard(4, 1, "fgGc", check)
	forEachBoard(2, 3, "fgGc", check)
}

// knownUnits returns the units by letters: each flip, and each gear without one before it in its group, begins one.
func knownUnits(lines []string) [][]int {
	text := strings.Join(lines, "")
	numbers, _ := knownGroups(lines)
	units := [][]int{}
	for i, letter := range text {
		if letter == 'f' || letter == 'F' {
			units = append(units, []int{i})
		}
		if isGear(text[i]) {
			if gears := indicesOf(text, numbers, numbers[i], true); gears[0] == i {
				units = append(units, gears)
			}
		}
	}
	return units
}

// turnedLetter returns the letter of a flip or a gear in its other state.
func turnedLetter(letter byte) byte {
	switch letter {
	case 'f':
		return 'F'
	case 'F':
		return 'f'
	}
	return otherState(letter)
}

// bitsByLetters returns the bits of units: a capital letter is a 1.
func bitsByLetters(lines []string, units [][]int) []int {
	text := strings.Join(lines, "")
	l := []int{}
	for _, unit := range units {
		bit := 0
		if text[unit[0]] == 'F' || text[unit[0]] == 'G' {
			bit = 1
		}
		l = append(l, bit)
	}
	return l
}

// linesTurned returns the lines after some units have turned.
func linesTurned(lines []string, units [][]int, chosen ...int) []string {
	text := strings.Join(lines, "")
	for _, k := range chosen {
		text = withLetter(text, units[k], turnedLetter)
	}
	return linesLike(lines, text)
}

// linesWithBits returns the lines in which units have the given bits.
func linesWithBits(lines []string, units [][]int, bits []int) []string {
	chosen := []int{}
	for k, bit := range bitsByLetters(lines, units) {
		if bit != bits[k] {
			chosen = append(chosen, k)
		}
	}
	return linesTurned(lines, units, chosen...)
}

// numberBits returns the bits of a number of a state, the lowest one first.
func numberBits(n, units int) []int {
	l := []int{}
	for range units {
		l = append(l, n%2)
		n /= 2
	}
	return l
}

// bitsNumber is the other way round.
func bitsNumber(bits []int) int {
	n := 0
	for _, bit := range slices.Backward(bits) {
		n = 2*n + bit
	}
	return n
}

func digitsOf(bits []int) string {
	text := ""
	for _, bit := range bits {
		text += strconv.Itoa(bit)
	}
	return text
}

// someBits returns bits that follow no short pattern.
func someBits(n int, seed uint32) []int {
	l := []int{}
	for range n {
		seed = seed*1664525 + 1013904223
		l = append(l, int(seed>>16)%2)
	}
	return l
}

func sameLists(a, b [][]int) bool {
	return slices.EqualFunc(a, b, slices.Equal)
}

func checkUnits(t *testing.T, b impl.Board, want [][]int) {
	t.Helper()
	if units, ok := impl.UnitsOf(b); !ok || !sameLists(units, want) {
		t.Errorf("UnitsOf(%v) = %v, %v; want %v", b, units, ok, want)
	}
}

func checkBits(t *testing.T, b impl.Board, want []int) {
	t.Helper()
	bits, ok := impl.BitsOf(b)
	checkNumbers(t, "BitsOf", bits, ok, want)
	if text, ok := impl.BitsText(b); !ok || text != digitsOf(want) {
		t.Errorf("BitsText(%v) = %q, %v; want %q", b, text, ok, digitsOf(want))
	}
}

func checkNumber(t *testing.T, b impl.Board, want int) {
	t.Helper()
	if n, ok := impl.StateNumber(b); !ok || n != want {
		t.Errorf("StateNumber(%v) = %d, %v; want %d", b, n, ok, want)
	}
}

func checkNoNumber(t *testing.T, b impl.Board) {
	t.Helper()
	if n, ok := impl.StateNumber(b); ok || n != 0 {
		t.Errorf("StateNumber(%v) = %d, %v; want none", b, n, ok)
	}
}

func checkInState(t *testing.T, b impl.Board, n int, want []string) {
	t.Helper()
	got, ok := impl.BoardInState(b, n)
	checkBoard(t, "BoardInState "+strconv.Itoa(n), got, ok, want)
}

func checkNotInState(t *testing.T, b impl.Board, n int) {
	t.Helper()
	got, ok := impl.BoardInState(b, n)
	checkNoBoard(t, "BoardInState "+strconv.Itoa(n), got, ok)
}

func checkWithBits(t *testing.T, b impl.Board, bits []int, want []string) {
	t.Helper()
	got, ok := impl.BoardWithBits(b, bits)
	checkBoard(t, "BoardWithBits", got, ok, want)
}

func checkNotWithBits(t *testing.T, b impl.Board, bits []int) {
	t.Helper()
	got, ok := impl.BoardWithBits(b, bits)
	checkNoBoard(t, "BoardWithBits", got, ok)
}

func checkTurnUnit(t *testing.T, b impl.Board, k int, want []string) {
	t.Helper()
	got, ok := impl.TurnUnit(b, k)
	checkBoard(t, "TurnUnit "+strconv.Itoa(k), got, ok, want)
}

func checkNoUnit(t *testing.T, b impl.Board, k int) {
	t.Helper()
	got, ok := impl.TurnUnit(b, k)
	checkNoBoard(t, "TurnUnit "+strconv.Itoa(k), got, ok)
}

// checkStates checks two boards that are states of one board, and the units that lead from one to the other.
func checkStates(t *testing.T, a, b impl.Board, turned []int) {
	t.Helper()
	for _, pair := range [][2]impl.Board{{a, b}, {b, a}} {
		if same, ok := impl.AreStates(pair[0], pair[1]); !ok || !same {
			t.Errorf("AreStates(%v, %v) = %v, %v; want true", pair[0], pair[1], same, ok)
		}
		units, ok := impl.TurnedUnits(pair[0], pair[1])
		checkNumbers(t, "TurnedUnits", units, ok, turned)
	}
}

// checkNoStates checks two boards of one size that are no states of one board.
func checkNoStates(t *testing.T, a, b impl.Board) {
	t.Helper()
	for _, pair := range [][2]impl.Board{{a, b}, {b, a}} {
		if same, ok := impl.AreStates(pair[0], pair[1]); !ok || same {
			t.Errorf("AreStates(%v, %v) = %v, %v; want false, true", pair[0], pair[1], same, ok)
		}
		units, ok := impl.TurnedUnits(pair[0], pair[1])
		checkNoNumbers(t, "TurnedUnits", units, ok)
	}
}

// checkNotCompared checks two boards of different sizes, or of which one is not valid.
func checkNotCompared(t *testing.T, a, b impl.Board) {
	t.Helper()
	for _, pair := range [][2]impl.Board{{a, b}, {b, a}} {
		if same, ok := impl.AreStates(pair[0], pair[1]); ok || same {
			t.Errorf("AreStates(%v, %v) = %v, %v; want none", pair[0], pair[1], same, ok)
		}
		units, ok := impl.TurnedUnits(pair[0], pair[1])
		checkNoNumbers(t, "TurnedUnits", units, ok)
	}
}

func TestUnitLimit(t *testing.T) {
	if impl.MaxUnits != 16 {
		t.Error("limit", impl.MaxUnits)
	}
}

func TestUnitsAndBits(t *testing.T) {
	least, most := 99, 0
	forStateBoards(func(b impl.Board, lines []string) {
		units := knownUnits(lines)
		least, most = min(least, len(units)), max(most, len(units))
		checkUnits(t, b, units)
		bits := bitsByLetters(lines, units)
		checkBits(t, b, bits)
		if len(units) > 16 {
			checkNoNumber(t, b)
		} else {
			checkNumber(t, b, bitsNumber(bits))
		}
	})
	if least != 0 || most != 90 {
		t.Error("units tried", least, most)
	}
}

// TestEachTurningCellIsInOneUnit looks at what the units of a board are, without any others.
func TestEachTurningCellIsInOneUnit(t *testing.T) {
	forStateBoards(func(b impl.Board, lines []string) {
		units, _ := impl.UnitsOf(b)
		all := []int{}
		for k, unit := range units {
			if len(unit) == 0 || k > 0 && unit[0] <= units[k-1][0] {
				t.Fatalf("units of %q are not in order: %v", lines, units)
			}
			for n := 1; n < len(unit); n++ {
				if unit[n] <= unit[n-1] {
					t.Fatalf("a unit of %q is not in order: %v", lines, unit)
				}
			}
			if b.Cells[unit[0]].Kind == impl.PtGear {
				group, ok := impl.GroupOf(b, unit[0]/b.Columns, unit[0]%b.Columns)
				gears := slices.DeleteFunc(group, func(i int) bool { return b.Cells[i].Kind != impl.PtGear })
				checkNumbers(t, "unit of gears", gears, ok, unit)
			}
			all = append(all, unit...)
		}
		slices.Sort(all)
		turning, ok := impl.TurningCells(b)
		checkNumbers(t, "cells of all units", turning, ok, all)
	})
}

func TestBitsThatAreSetAreRead(t *testing.T) {
	forStateBoards(func(b impl.Board, lines []string) {
		units := knownUnits(lines)
		old := bitsByLetters(lines, units)
		checkWithBits(t, b, old, lines)
		ones := slices.Repeat([]int{1}, len(units))
		for _, bits := range [][]int{make([]int, len(units)), ones, someBits(len(units), 1), someBits(len(units), 2)} {
			want := linesWithBits(lines, units, bits)
			checkWithBits(t, b, bits, want)
			set, _ := impl.BoardWithBits(b, bits)
			checkBits(t, set, bits)
			checkWithBits(t, set, old, lines)
			turned := []int{}
			for k := range bits {
				if bits[k] != old[k] {
					turned = append(turned, k)
				}
			}
			checkStates(t, b, set, turned)
		}
	})
}

func TestZeroStates(t *testing.T) {
	forStateBoards(func(b impl.Board, lines []string) {
		units := knownUnits(lines)
		zeros := make([]int, len(units))
		want := linesWithBits(lines, units, zeros)
		zero, ok := impl.ZeroState(b)
		checkBoard(t, "ZeroState", zero, ok, want)
		checkBits(t, zero, zeros)
		again, ok := impl.ZeroState(zero)
		checkBoard(t, "ZeroState of a zero state", again, ok, want)
		if len(units) <= 16 {
			checkNumber(t, zero, 0)
			checkInState(t, b, 0, want)
		}
	})
}

// TestEachNumberLeadsToItsState tries all numbers of small boards.
func TestEachNumberLeadsToItsState(t *testing.T) {
	check := func(b impl.Board, lines []string) {
		units := knownUnits(lines)
		seen := map[string]bool{}
		for n := range 1 << len(units) {
			want := linesWithBits(lines, units, numberBits(n, len(units)))
			checkInState(t, b, n, want)
			inState, _ := impl.BoardInState(b, n)
			checkNumber(t, inState, n)
			seen[linesText(want)] = true
		}
		if len(seen) != 1<<len(units) {
			t.Errorf("%d states of %q are different", len(seen), lines)
		}
	}
	forEachBoard(1, 3, "fFgGc.", check)
	forEachBoard(3, 1, "fgGc", check)
	forEachBoard(2, 2, "fgGc", check)
	for _, lines := range [][]string{{"f.g.G.F.f"}, {"fgFcG.gfG"}, {"gcfcg", "c.c.c", "GcFcG"}, {"Fx", "fl", "go", "Fr", "G."}} {
		check(boardWith(lines...), lines)
	}
}

func TestLeastAndGreatestNumbers(t *testing.T) {
	forStateBoards(func(b impl.Board, lines []string) {
		units := knownUnits(lines)
		states := 1 << min(len(units), 20)
		for _, n := range []int{-2, -1, 0, 1, 2, states/2 - 1, states / 2, states - 2, states - 1, states, states + 1, 1 << 16, 2*states - 1, 1<<16 - 1, math.MaxInt, math.MinInt, math.MinInt + 1, 1 << 32, -1 << 32} {
			if len(units) <= 16 && n >= 0 && n < states {
				checkInState(t, b, n, linesWithBits(lines, units, numberBits(n, len(units))))
			} else {
				checkNotInState(t, b, n)
			}
		}
	})
}

func TestTurnedUnitsComeBack(t *testing.T) {
	forStateBoards(func(b impl.Board, lines []string) {
		units := knownUnits(lines)
		for k := range units {
			checkTurnUnit(t, b, k, linesTurned(lines, units, k))
			turned, _ := impl.TurnUnit(b, k)
			checkTurnUnit(t, turned, k, lines)
			want := bitsByLetters(lines, units)
			want[k] = 1 - want[k]
			checkBits(t, turned, want)
			// All units keep their cells, so that they can turn again.
			checkUnits(t, turned, units)
		}
		for _, k := range append([]int{-1, len(units), len(units) + 1, 89, 90}, wildNumbers...) {
			if k < 0 || k >= len(units) {
				checkNoUnit(t, b, k)
			}
		}
	})
}

func TestTurnedUnitsTurnAsTheirCellsDo(t *testing.T) {
	forStateBoards(func(b impl.Board, lines []string) {
		for k, unit := range knownUnits(lines) {
			turned, _ := impl.TurnUnit(b, k)
			different, ok := impl.DifferentCells(b, turned)
			checkNumbers(t, "cells that turned", different, ok, unit)
			if row, column := unit[0]/b.Columns, unit[0]%b.Columns; b.Cells[unit[0]].Kind == impl.PtGear {
				gear, ok := impl.TurnGear(b, row, column)
				checkBoard(t, "TurnGear", gear, ok, linesTurned(lines, knownUnits(lines), k))
			}
		}
	})
}

// allStates returns the texts of all boards that turning units leads to, found by turning one unit after the other.
func allStates(lines []string) map[string]bool {
	found := map[string]bool{}
	waiting := [][]string{lines}
	for len(waiting) > 0 {
		next := waiting[0]
		waiting = waiting[1:]
		if found[linesText(next)] {
			continue
		}
		found[linesText(next)] = true
		units := knownUnits(next)
		for k := range units {
			waiting = append(waiting, linesTurned(next, units, k))
		}
	}
	return found
}

// TestStatesOfOneBoard compares all pairs of boards of a few small sizes.
func TestStatesOfOneBoard(t *testing.T) {
	for _, kind := range []struct {
		rows, columns int
		letters       string
	}{{1, 3, "fFgGc."}, {2, 2, "gGc."}, {1, 1, "fFgGc.lrxo"}, {3, 1, "fgG"}, {1, 5, "gG."}, {2, 3, "gG"}} {
		all := [][]string{}
		forEachBoard(kind.rows, kind.columns, kind.letters, func(_ impl.Board, lines []string) { all = append(all, lines) })
		for _, lines := range all {
			a, states, units := boardWith(lines...), allStates(lines), knownUnits(lines)
			bits := bitsByLetters(lines, units)
			for _, others := range all {
				b := boardWith(others...)
				if !states[linesText(others)] {
					checkNoStates(t, a, b)
					continue
				}
				turned := []int{}
				for k, bit := range bitsByLetters(others, units) {
					if bit != bits[k] {
						turned = append(turned, k)
					}
				}
				checkStates(t, a, b, turned)
			}
		}
	}
}

func TestTurnedUnitsLeadToTheOther(t *testing.T) {
	forStateBoards(func(a impl.Board, lines []string) {
		units := knownUnits(lines)
		b := boardWith(linesWithBits(lines, units, someBits(len(units), 9))...)
		turned, ok := impl.TurnedUnits(a, b)
		if !ok {
			t.Fatalf("TurnedUnits of %q fails", lines)
		}
		after := a
		for _, k := range turned {
			after, _ = impl.TurnUnit(after, k)
		}
		if !sameBoards(after, b) {
			t.Errorf("%v lead from %v to %v, not to %v", turned, a, after, b)
		}
	})
}

// TestBoardsThatDifferInOneCell puts each cell in place of each other one.
func TestBoardsThatDifferInOneCell(t *testing.T) {
	for _, lines := range [][]string{{"fgG.cx"}, {"gcG", "lfr", "FoG"}, {"gG", "Gg"}, {"f"}, {"g"}, {"."}} {
		a, units := boardWith(lines...), knownUnits(lines)
		for i, c := range a.Cells {
			for _, k := range knownCells {
				b := copyBoard(a)
				b.Cells[i] = k.cell
				unit := slices.IndexFunc(units, func(u []int) bool { return len(u) == 1 && u[0] == i })
				switch {
				case k.cell == c:
					checkStates(t, a, b, nil)
				case unit >= 0 && k.cell.Kind == c.Kind:
					checkStates(t, a, b, []int{unit})
				default:
					checkNoStates(t, a, b)
				}
			}
		}
	}
}

func TestBoardsWithoutUnits(t *testing.T) {
	for _, lines := range [][]string{{"."}, {"c"}, {"o"}, {"lrxo.c"}, {"cc", ".c"}, slices.Repeat([]string{"ccccccccc"}, 10), slices.Repeat([]string{".lrxoc.lr"}, 10)} {
		b := boardWith(lines...)
		checkUnits(t, b, nil)
		checkBits(t, b, nil)
		checkNumber(t, b, 0)
		checkInState(t, b, 0, lines)
		for _, n := range []int{-1, 1, 2, math.MaxInt, math.MinInt} {
			checkNotInState(t, b, n)
		}
		checkWithBits(t, b, nil, lines)
		checkWithBits(t, b, []int{}, lines)
		checkNotWithBits(t, b, []int{0})
		checkNotWithBits(t, b, []int{1})
		for _, k := range []int{-1, 0, 1} {
			checkNoUnit(t, b, k)
		}
		zero, ok := impl.ZeroState(b)
		checkBoard(t, "ZeroState", zero, ok, lines)
		checkStates(t, b, copyBoard(b), nil)
		other := copyBoard(b)
		other.Cells[len(other.Cells)-1] = impl.Cell{Kind: impl.PtFlip}
		checkNoStates(t, b, other)
	}
}

func TestDocumentExampleOfStates(t *testing.T) {
	b := boardWith("fg.GF")
	checkUnits(t, b, [][]int{{0}, {1}, {3}, {4}})
	checkBits(t, b, []int{0, 0, 1, 1})
	checkNumber(t, b, 12)
	joined := boardWith("fgcGF")
	checkUnits(t, joined, [][]int{{0}, {1, 3}, {4}})
	checkBits(t, joined, []int{0, 0, 1})
	checkNumber(t, joined, 4)
	checkNoStates(t, b, joined)
}

func TestGroupsWithGearsInBothStates(t *testing.T) {
	b := boardWith("GcggG")
	checkUnits(t, b, [][]int{{0, 2, 3, 4}})
	checkBits(t, b, []int{1})
	checkTurnUnit(t, b, 0, []string{"gcGGg"})
	checkInState(t, b, 0, []string{"gcGGg"})
	checkInState(t, b, 1, []string{"GcggG"})
	zero, ok := impl.ZeroState(b)
	checkBoard(t, "ZeroState", zero, ok, []string{"gcGGg"})
	checkStates(t, b, boardWith("gcGGg"), []int{0})
	for _, other := range []string{"GcggG", "gcGGg", "gcggg", "GcGGG", "GcgGG", "GcGgG", "GcggF"} {
		if other != "GcggG" && other != "gcGGg" {
			checkNoStates(t, b, boardWith(other))
		}
	}
}

func TestGroupsBesideEachOther(t *testing.T) {
	b := boardWith("gG.Gg", "..f..", "gg.GG")
	checkUnits(t, b, [][]int{{0, 1}, {3, 4}, {7}, {10, 11}, {13, 14}})
	checkBits(t, b, []int{0, 1, 0, 0, 1})
	checkNumber(t, b, 18)
	checkInState(t, b, 13, []string{"Gg.gG", "..F..", "GG.gg"})
	checkStates(t, b, boardWith("Gg.gG", "..F..", "GG.gg"), []int{0, 1, 2, 3, 4})
	// Neighbours by a corner alone, and the ends of two rows, are two groups.
	checkUnits(t, boardWith("g.", ".G"), [][]int{{0}, {3}})
	checkUnits(t, boardWith(".g", "G."), [][]int{{1}, {2}})
	checkUnits(t, boardWith("..g", "G.."), [][]int{{2}, {3}})
	// A flip between gears joins nothing, and stands between them in order.
	checkUnits(t, boardWith("gfG"), [][]int{{0}, {1}, {2}})
	checkUnits(t, boardWith("gfG", "ccc"), [][]int{{0, 2}, {1}})
}

func TestGroupsOverSeveralRows(t *testing.T) {
	b := boardWith("g.f.G", "c.F.c", "GcccG", "f...f")
	checkUnits(t, b, [][]int{{0, 4, 10, 14}, {2}, {7}, {15}, {19}})
	checkBits(t, b, []int{0, 0, 1, 0, 0})
	checkTurnUnit(t, b, 0, []string{"G.f.g", "c.F.c", "gcccg", "f...f"})
	checkTurnUnit(t, b, 4, []string{"g.f.G", "c.F.c", "GcccG", "f...F"})
	checkInState(t, b, 31, []string{"G.F.g", "c.F.c", "gcccg", "F...F"})
	// The search for the group meets the gear with the greater index first here.
	checkUnits(t, boardWith(".c.G", ".c.c", "gccc"), [][]int{{3, 8}})
	checkBits(t, boardWith(".c.G", ".c.c", "gccc"), []int{1})
	checkInState(t, boardWith(".c.G", ".c.c", "gccc"), 0, []string{".c.g", ".c.c", "Gccc"})
}

// TestGroupsWhoseLeastCellIsACog has units that come in another order than the groups.
func TestGroupsWhoseLeastCellIsACog(t *testing.T) {
	b := boardWith("c.f", "cgo", "..G", "F.c", "ccc")
	checkUnits(t, b, [][]int{{2}, {4}, {8}, {9}})
	b = boardWith("..c", "G.c", "f.g")
	checkUnits(t, b, [][]int{{3}, {6}, {8}})
	checkBits(t, b, []int{1, 0, 0})
	checkNumber(t, b, 1)
	checkInState(t, b, 6, []string{"..c", "g.c", "F.G"})
	checkTurnUnit(t, b, 2, []string{"..c", "G.c", "f.G"})
	checkUnits(t, boardWith("cc.gf", ".c...", ".G..."), [][]int{{3}, {4}, {11}})
	checkNumber(t, boardWith("cc.gf", ".c...", ".G..."), 4)
	// A group of cogs alone is no unit, wherever it stands.
	checkUnits(t, boardWith("cc.f.cc.g"), [][]int{{3}, {8}})
}

func TestStatesOfOneCell(t *testing.T) {
	for _, k := range knownCells {
		b := boardWith(k.letter)
		if !strings.Contains("fFgG", k.letter) {
			checkUnits(t, b, nil)
			checkBits(t, b, nil)
			continue
		}
		lower, upper := strings.ToLower(k.letter), strings.ToUpper(k.letter)
		checkUnits(t, b, [][]int{{0}})
		checkBits(t, b, []int{k.cell.State})
		checkNumber(t, b, k.cell.State)
		checkInState(t, b, 0, []string{lower})
		checkInState(t, b, 1, []string{upper})
		checkNotInState(t, b, 2)
		checkNotInState(t, b, -1)
		checkTurnUnit(t, boardWith(lower), 0, []string{upper})
		checkTurnUnit(t, boardWith(upper), 0, []string{lower})
		checkStates(t, boardWith(lower), boardWith(upper), []int{0})
	}
	checkNoStates(t, boardWith("f"), boardWith("g"))
	checkNoStates(t, boardWith("F"), boardWith("G"))
}

func TestGreatestBoards(t *testing.T) {
	all := []int{}
	for i := range 90 {
		all = append(all, i)
	}
	group := boardWith(slices.Repeat([]string{"gGgGgGgGg"}, 10)...)
	checkUnits(t, group, [][]int{all})
	checkBits(t, group, []int{0})
	checkNumber(t, group, 0)
	checkInState(t, group, 1, slices.Repeat([]string{"GgGgGgGgG"}, 10))
	checkNotInState(t, group, 2)
	flips := boardWith(slices.Repeat([]string{"fFfFfFfFf"}, 10)...)
	checkBits(t, flips, slices.Repeat([]int{0, 1, 0, 1, 0, 1, 0, 1, 0}, 10))
	checkStates(t, flips, boardWith(slices.Repeat([]string{"FfFfFfFfF"}, 10)...), all)
	checkTurnUnit(t, flips, 89, append(slices.Repeat([]string{"fFfFfFfFf"}, 9), "fFfFfFfFF"))
	checkNoUnit(t, flips, 90)
	checkNotWithBits(t, flips, make([]int, 89))
	checkNotWithBits(t, flips, make([]int, 91))
	checkWithBits(t, flips, slices.Repeat([]int{1}, 90), slices.Repeat([]string{"FFFFFFFFF"}, 10))
}

// mixedUnits are lines with one unit more if the letter at the mark is no cog.
func mixedUnits(mark string) []string {
	return []string{"g.G.g.G.g", ".g.f.g.F.", "G.g" + mark + "G.fFg", "o.F...f.."}
}

func TestMaxUnits(t *testing.T) {
	for _, lines := range [][]string{{"fFfFfFfF", "fFfFfFfF"}, mixedUnits("c"), {"FFFFFFFFF", "FFFFFFF.."}, {"..ffffffF", ".ffffff..", "Fg.gggggc", "cc.cccGGG"}} {
		b, units := boardWith(lines...), knownUnits(lines)
		if len(units) != 16 {
			t.Fatalf("%q has %d units", lines, len(units))
		}
		checkNumber(t, b, bitsNumber(bitsByLetters(lines, units)))
		for n := 0; n < 1<<16; n += 331 {
			checkInState(t, b, n, linesWithBits(lines, units, numberBits(n, 16)))
			inState, _ := impl.BoardInState(b, n)
			checkNumber(t, inState, n)
		}
		for _, n := range []int{0, 1, 1<<15 - 1, 1 << 15, 1<<16 - 2, 1<<16 - 1} {
			checkInState(t, b, n, linesWithBits(lines, units, numberBits(n, 16)))
		}
		for _, n := range []int{-1, 1 << 16, 1<<16 + 1, 1 << 17, 1<<17 - 1} {
			checkNotInState(t, b, n)
		}
		checkTurnUnit(t, b, 15, linesTurned(lines, units, 15))
		checkNoUnit(t, b, 16)
	}
}

func TestOneUnitTooMany(t *testing.T) {
	for _, lines := range [][]string{{"fFfFfFfF", "fFfFfFfF", "......F."}, mixedUnits("."), {"fffffffff", "ffffffff."}, slices.Repeat([]string{"ff"}, 10), slices.Repeat([]string{"FFFFFFFFF"}, 10)} {
		b, units := boardWith(lines...), knownUnits(lines)
		if len(units) <= 16 {
			t.Fatalf("%q has %d units", lines, len(units))
		}
		last := len(units) - 1
		checkUnits(t, b, units)
		checkBits(t, b, bitsByLetters(lines, units))
		checkNoNumber(t, b)
		for _, n := range []int{-1, 0, 1, 1<<16 - 1, 1 << 16, 1<<17 - 1, 1 << 17} {
			checkNotInState(t, b, n)
		}
		other := someBits(len(units), 4)
		checkWithBits(t, b, other, linesWithBits(lines, units, other))
		checkTurnUnit(t, b, last, linesTurned(lines, units, last))
		checkNoUnit(t, b, last+1)
		checkStates(t, b, boardWith(linesTurned(lines, units, 0, last)...), []int{0, last})
		zeros := linesWithBits(lines, units, make([]int, len(units)))
		zero, ok := impl.ZeroState(b)
		checkBoard(t, "ZeroState", zero, ok, zeros)
		checkNoNumber(t, zero)
	}
}

func TestBitsOfNoBoard(t *testing.T) {
	wrong := []int{-1, 2, 3, -2, 255, 256, 257, 1 << 32, 1<<32 + 1, math.MaxInt, math.MinInt, math.MinInt + 1}
	forStateBoards(func(b impl.Board, lines []string) {
		n := len(knownUnits(lines))
		checkNotWithBits(t, b, make([]int, n+1))
		checkNotWithBits(t, b, slices.Repeat([]int{1}, n+1))
		if n == 0 {
			return
		}
		checkNotWithBits(t, b, make([]int, n-1))
		checkNotWithBits(t, b, nil)
		for i, bit := range wrong {
			bits := someBits(n, uint32(i))
			bits[i%n] = bit
			checkNotWithBits(t, b, bits)
			bits = make([]int, n)
			bits[n-1] = bit
			checkNotWithBits(t, b, bits)
		}
	})
	checkNotWithBits(t, boardWith("f"), make([]int, 100000))
}

func TestStatesOfDifferentSizes(t *testing.T) {
	sizes := []place{{1, 1}, {1, 2}, {2, 1}, {2, 3}, {3, 2}, {1, 6}, {6, 1}, {1, 9}, {9, 1}, {10, 1}, {9, 9}, {10, 9}, {9, 8}}
	for _, letters := range []string{"f", "g", ".", "fFgGc."} {
		for _, p := range sizes {
			for _, q := range sizes {
				if p == q {
					continue
				}
				a, b := boardWith(gearLines(p.row, p.column, letters, 5)...), boardWith(gearLines(q.row, q.column, letters, 5)...)
				checkNotCompared(t, a, b)
			}
		}
	}
}

// checkStateRefused checks that no function takes a board.
func checkStateRefused(t *testing.T, b impl.Board) {
	t.Helper()
	if units, ok := impl.UnitsOf(b); ok || len(units) != 0 {
		t.Errorf("UnitsOf(%v) = %v, %v", b, units, ok)
	}
	bits, ok := impl.BitsOf(b)
	checkNoNumbers(t, "BitsOf", bits, ok)
	if text, ok := impl.BitsText(b); ok || text != "" {
		t.Errorf("BitsText(%v) = %q, %v", b, text, ok)
	}
	checkNoNumber(t, b)
	zero, ok := impl.ZeroState(b)
	checkNoBoard(t, "ZeroState", zero, ok)
	for n := -1; n <= 2; n++ {
		checkNotInState(t, b, n)
		checkNoUnit(t, b, n)
		checkNotWithBits(t, b, make([]int, max(n, 0)))
	}
	checkNotWithBits(t, b, make([]int, len(b.Cells)))
	checkNotCompared(t, b, copyBoard(b))
	for _, size := range [][2]int{{1, 1}, {2, 3}, {max(1, min(b.Rows, 10)), max(1, min(b.Columns, 9))}} {
		checkNotCompared(t, b, boardWith(gearLines(size[0], size[1], "fg.", 1)...))
		checkNotCompared(t, b, boardWith(gearLines(size[0], size[1], ".", 1)...))
	}
}

func TestStatesOfInvalidBoards(t *testing.T) {
	for _, plain := range invalidBoards() {
		checkStateRefused(t, plain)
		for _, kind := range []int{impl.PtFlip, impl.PtGear} {
			// The same with flips or gears in place of the valid cells, so that it is the size or the other cells that are wrong.
			b := copyBoard(plain)
			for i, c := range b.Cells {
				if isKnown(c) {
					b.Cells[i] = impl.Cell{Kind: kind}
				}
			}
			if !impl.IsBoard(b) {
				checkStateRefused(t, b)
			}
		}
	}
	for _, size := range [][2]int{{11, 1}, {1, 10}, {11, 9}, {10, 10}} {
		checkStateRefused(t, boardWith(gearLines(size[0], size[1], "fFgGc.", 1)...))
	}
	missing, _ := withSpare(impl.Board{Rows: 2, Columns: 2, Cells: slices.Repeat([]impl.Cell{{Kind: impl.PtFlip}}, 3)})
	checkStateRefused(t, missing)
}

// callStates calls every function of the chapter, and returns the boards and the numbers that came back.
func callStates(a, b impl.Board, bits []int) ([]impl.Board, [][]int) {
	units, _ := impl.UnitsOf(a)
	own, _ := impl.BitsOf(a)
	number, _ := impl.StateNumber(a)
	turnedUnits, _ := impl.TurnedUnits(a, b)
	impl.AreStates(a, b)
	impl.BitsText(a)
	zero, _ := impl.ZeroState(a)
	boards := []impl.Board{zero}
	for _, l := range [][]int{bits, own, make([]int, len(units))} {
		with, _ := impl.BoardWithBits(a, l)
		boards = append(boards, with)
	}
	for n := range 3 {
		inState, _ := impl.BoardInState(a, n)
		turned, _ := impl.TurnUnit(a, n)
		boards = append(boards, inState, turned)
	}
	return boards, append(units, own, []int{number}, turnedUnits)
}

func TestStateArgumentsStayAsTheyAre(t *testing.T) {
	check := func(plain impl.Board, units int) {
		a, whole := withSpare(plain)
		b, other := withSpare(plain)
		for _, c := range b.Cells {
			if c.Kind == impl.PtFlip {
				b.Cells[0] = impl.Cell{Kind: impl.PtFlip, State: 1}
			}
		}
		bits := append(someBits(units, 8), 77, -1, 5, 9)
		before, otherBefore, bitsBefore := slices.Clone(whole), slices.Clone(other), slices.Clone(bits)
		boards, lists := callStates(a, b, bits[:units])
		if !slices.Equal(whole, before) || !slices.Equal(other, otherBefore) || !slices.Equal(bits, bitsBefore) {
			t.Fatalf("%v was changed, or what is behind its cells, or bits", plain)
		}
		wantBoards, wantLists := callStates(copyBoard(plain), copyBoard(b), slices.Clone(bits[:units]))
		if !slices.EqualFunc(boards, wantBoards, sameBoards) || !sameLists(lists, wantLists) {
			t.Errorf("other results for %v with cells behind it", plain)
		}
	}
	forStateBoards(func(b impl.Board, lines []string) { check(b, len(knownUnits(lines))) })
	for _, b := range invalidBoards() {
		check(b, 2)
	}
}

func TestStateResultsShareNothing(t *testing.T) {
	forStateBoards(func(plain impl.Board, lines []string) {
		b, whole := withSpare(plain)
		before := slices.Clone(whole)
		bits := someBits(len(knownUnits(lines)), 3)
		bitsBefore := slices.Clone(bits)
		other := boardWith(linesWithBits(lines, knownUnits(lines), bits)...)
		boards, lists := callStates(b, other, bits)
		wantBoards, wantLists := callStates(copyBoard(plain), copyBoard(other), bits)
		for i, r := range boards {
			overwrite(r)
			for k := i + 1; k < len(boards); k++ {
				if !sameBoards(boards[k], wantBoards[k]) {
					t.Fatalf("results %d and %d of %q share cells", i, k, lines)
				}
			}
		}
		for i, l := range lists {
			for k := range l[:cap(l)] {
				l[:cap(l)][k] = -9
			}
			for k := i + 1; k < len(lists); k++ {
				if !slices.Equal(lists[k], wantLists[k]) {
					t.Fatalf("lists %d and %d of %q share numbers", i, k, lines)
				}
			}
		}
		again, listsAgain := callStates(b, other, bits)
		if !slices.Equal(whole, before) || !slices.Equal(bits, bitsBefore) || !slices.EqualFunc(again, wantBoards, sameBoards) || !sameLists(listsAgain, wantLists) {
			t.Fatalf("a result shares memory with %q or bits", lines)
		}
	})
}
