package tests

import (
	"math/bits"
	"slices"
	"strings"
	"testing"

	"loop.example/g00942/impl"
)

// gearLetters are letters of boards with many and with few groups, with gears alone, cogs alone, and neither.
var gearLetters = []string{"gGc", "gGc.", "gG.", "gGc..lf", "cc.", "cccg..x", "Go", "g", ".c", "lrfFxo.", ".lrfFxogGc"}

// gearLines returns lines of the given letters that follow no short pattern.
func gearLines(rows, columns int, letters string, seed uint32) []string {
	lines := []string{}
	for range rows {
		line := ""
		for range columns {
			seed = seed*1664525 + 1013904223
			line += string(letters[(seed>>16)%uint32(len(letters))])
		}
		lines = append(lines, line)
	}
	return lines
}

// forGearBoards calls check for boards of all sizes and all gearLetters.
func forGearBoards(check func(b impl.Board, lines []string)) {
	for rows := 1; rows <= 10; rows++ {
		for columns := 1; columns <= 9; columns++ {
			for i, letters := range gearLetters {
				lines := gearLines(rows, columns, letters, uint32(rows*1000+columns*100+i))
				check(boardWith(lines...), lines)
			}
		}
	}
}

// forEachBoard calls check for all boards of a size and of some letters.
func forEachBoard(rows, columns int, letters string, check func(b impl.Board, lines []string)) {
	count := 1
	for range rows * columns {
		count *= len(letters)
	}
	for number := range count {
		lines := []string{}
		for range rows {
			line := ""
			for range columns {
				line += string(letters[number%len(letters)])
				number /= len(letters)
			}
			lines = append(lines, line)
		}
		check(boardWith(lines...), lines)
	}
}

// forManyBoards calls check for boards of all sizes, and for all boards of a few small ones.
func forManyBoards(check func(b impl.Board, lines []string)) {
	forGearBoards(check)
	forEachBoard(2, 3, ".gGcl", check)
	forEachBoard(3, 2, ".gGc", check)
	forEachBoard(1, 5, ".gGco", check)
	forEachBoard(5, 1, ".gGc", check)
	forEachBoard(3, 3, "gc.", check)
}

// place is a row and a column.
type place struct{ row, column int }

func placesOf(lines []string) []place {
	l := []place{}
	for row, line := range lines {
		for column := range line {
			l = append(l, place{row, column})
		}
	}
	return l
}

func (p place) touches(q place) bool {
	down, right := q.row-p.row, q.column-p.column
	return down*down+right*right == 1
}

func joins(letter byte) bool {
	return strings.IndexByte("gGc", letter) >= 0
}

func isGear(letter byte) bool {
	return letter == 'g' || letter == 'G'
}

// knownGroups returns for each cell the number of its group, or -1, and how many groups there are. It hands lesser indices on between neighbours until nothing changes any more, so that it has no search in common with the program.
func knownGroups(lines []string) ([]int, int) {
	text, places := strings.Join(lines, ""), placesOf(lines)
	least := []int{}
	for i := range text {
		least = append(least, i)
	}
	for changed := true; changed; {
		changed = false
		for i, p := range places {
			for k, q := range places {
				if p.touches(q) && joins(text[i]) && joins(text[k]) && least[k] < least[i] {
					least[i] = least[k]
					changed = true
				}
			}
		}
	}
	numbers, count := make([]int, len(text)), 0
	for i := range text {
		switch {
		case !joins(text[i]):
			numbers[i] = -1
		case least[i] == i:
			numbers[i] = count
			count++
		default:
			numbers[i] = numbers[least[i]]
		}
	}
	return numbers, count
}

// indicesOf returns the indices of the cells with a number, or of the gears among them alone.
func indicesOf(text string, numbers []int, number int, gearsAlone bool) []int {
	l := []int{}
	for i, n := range numbers {
		if n == number && (!gearsAlone || isGear(text[i])) {
			l = append(l, i)
		}
	}
	return l
}

// linesLike returns a text in lines as long as those that are given.
func linesLike(lines []string, text string) []string {
	l := []string{}
	for row, line := range lines {
		l = append(l, text[row*len(line):(row+1)*len(line)])
	}
	return l
}

// withLetter returns a text with another letter at some indices.
func withLetter(text string, indices []int, change func(letter byte) byte) string {
	letters := []byte(text)
	for _, i := range indices {
		letters[i] = change(letters[i])
	}
	return string(letters)
}

// otherState returns the letter of a gear in its other state, and any other letter as it is.
func otherState(letter byte) byte {
	switch letter {
	case 'g':
		return 'G'
	case 'G':
		return 'g'
	}
	return letter
}

func checkJoined(t *testing.T, b impl.Board, p, q place, want, wantOK bool) {
	t.Helper()
	if joined, ok := impl.AreJoined(b, p.row, p.column, q.row, q.column); joined != want || ok != wantOK {
		t.Errorf("AreJoined(%v, %v, %v) = %v, %v; want %v, %v", b, p, q, joined, ok, want, wantOK)
	}
}

func checkCogs(t *testing.T, b impl.Board, p, q place, want int) {
	t.Helper()
	if cogs, ok := impl.LeastCogs(b, p.row, p.column, q.row, q.column); !ok || cogs != want {
		t.Errorf("LeastCogs(%v, %v, %v) = %d, %v; want %d", b, p, q, cogs, ok, want)
	}
}

func checkNoCogs(t *testing.T, b impl.Board, p, q place) {
	t.Helper()
	if cogs, ok := impl.LeastCogs(b, p.row, p.column, q.row, q.column); ok || cogs != 0 {
		t.Errorf("LeastCogs(%v, %v, %v) = %d, %v; want none", b, p, q, cogs, ok)
	}
}

func checkLargest(t *testing.T, b impl.Board, want, wantGears int) {
	t.Helper()
	if group, gears, ok := impl.LargestGroup(b); !ok || group != want || gears != wantGears {
		t.Errorf("LargestGroup(%v) = %d, %d, %v; want %d, %d", b, group, gears, ok, want, wantGears)
	}
}

func checkNoLargest(t *testing.T, b impl.Board) {
	t.Helper()
	if group, gears, ok := impl.LargestGroup(b); ok || group != 0 || gears != 0 {
		t.Errorf("LargestGroup(%v) = %d, %d, %v; want none", b, group, gears, ok)
	}
}

func checkCount(t *testing.T, b impl.Board, want int) {
	t.Helper()
	if count, ok := impl.CountGroups(b); !ok || count != want {
		t.Errorf("CountGroups(%v) = %d, %v; want %d", b, count, ok, want)
	}
}

func TestGearGroups(t *testing.T) {
	forManyBoards(func(b impl.Board, lines []string) {
		numbers, count := knownGroups(lines)
		got, ok := impl.GearGroups(b)
		checkNumbers(t, "GearGroups of "+linesText(lines), got, ok, numbers)
		checkCount(t, b, count)
		for i, p := range placesOf(lines) {
			group, ok := impl.GroupOf(b, p.row, p.column)
			if numbers[i] < 0 {
				checkNoNumbers(t, "GroupOf of "+linesText(lines), group, ok)
			} else {
				checkNumbers(t, "GroupOf of "+linesText(lines), group, ok, indicesOf("", numbers, numbers[i], false))
			}
		}
	})
}

// TestGroupsAreConnected looks at the promise itself: what touches has one number, and each group grows from its first cell.
func TestGroupsAreConnected(t *testing.T) {
	forGearBoards(func(b impl.Board, lines []string) {
		text, places := strings.Join(lines, ""), placesOf(lines)
		numbers, ok := impl.GearGroups(b)
		if !ok || len(numbers) != len(text) {
			t.Fatalf("GearGroups(%q) = %v, %v", lines, numbers, ok)
		}
		reached := slices.Repeat([]bool{false}, len(text))
		first := 0
		for i, number := range numbers {
			if number == first {
				reached[i] = true
				first++
			}
		}
		for range text {
			for i, p := range places {
				for k, q := range places {
					if !p.touches(q) || !joins(text[i]) || !joins(text[k]) {
						continue
					}
					if numbers[i] != numbers[k] {
						t.Fatalf("neighbours of %q have the numbers %d and %d", lines, numbers[i], numbers[k])
					}
					reached[i] = reached[i] || reached[k]
				}
			}
		}
		for i := range text {
			if reached[i] != joins(text[i]) || joins(text[i]) != (numbers[i] >= 0) {
				t.Fatalf("cell %d of %q has the number %d, and is reached: %v", i, lines, numbers[i], reached[i])
			}
		}
	})
}

func TestCellsAreJoined(t *testing.T) {
	check := func(b impl.Board, lines []string) {
		numbers, _ := knownGroups(lines)
		for i, p := range placesOf(lines) {
			for k, q := range placesOf(lines) {
				both := numbers[i] >= 0 && numbers[k] >= 0
				checkJoined(t, b, p, q, both && numbers[i] == numbers[k], both)
			}
		}
	}
	forEachBoard(2, 3, ".gGcl", check)
	forEachBoard(3, 3, "gl", check)
	for i, letters := range gearLetters {
		lines := gearLines(10, 9, letters, uint32(i))
		check(boardWith(lines...), lines)
	}
}

func TestTurnedGears(t *testing.T) {
	forManyBoards(func(b impl.Board, lines []string) {
		text := strings.Join(lines, "")
		numbers, _ := knownGroups(lines)
		for i, p := range placesOf(lines) {
			turned, ok := impl.TurnGear(b, p.row, p.column)
			if !isGear(text[i]) {
				checkNoBoard(t, "TurnGear of no gear", turned, ok)
				continue
			}
			want := withLetter(text, indicesOf(text, numbers, numbers[i], true), otherState)
			checkBoard(t, "TurnGear", turned, ok, linesLike(lines, want))
			back, ok := impl.TurnGear(turned, p.row, p.column)
			checkBoard(t, "turned twice", back, ok, lines)
		}
	})
}

func TestTurnedGearsKeepTheirGroups(t *testing.T) {
	forGearBoards(func(b impl.Board, lines []string) {
		before, _ := impl.GearGroups(b)
		for _, p := range placesOf(lines) {
			if turned, ok := impl.TurnGear(b, p.row, p.column); ok {
				after, ok := impl.GearGroups(turned)
				checkNumbers(t, "GearGroups of turned gears", after, ok, before)
			}
		}
	})
}

// TestLeastCogsOfSmallBoards puts cogs into each choice of empty cells, so that the least number joins two cells and no fewer do.
func TestLeastCogsOfSmallBoards(t *testing.T) {
	check := func(b impl.Board, lines []string) {
		text, places := strings.Join(lines, ""), placesOf(lines)
		empty := emptyCells(text)
		least := map[[2]int]int{}
		for choice := range uint(1) << len(empty) {
			chosen := []int{}
			for n, i := range empty {
				if choice>>n&1 == 1 {
					chosen = append(chosen, i)
				}
			}
			numbers, _ := knownGroups(linesLike(lines, withLetter(text, chosen, func(byte) byte { return 'c' })))
			for i := range places {
				for k := range places {
					old, found := least[[2]int{i, k}]
					if joins(text[i]) && joins(text[k]) && numbers[i] == numbers[k] && (!found || bits.OnesCount(choice) < old) {
						least[[2]int{i, k}] = bits.OnesCount(choice)
					}
				}
			}
		}
		for i, p := range places {
			for k, q := range places {
				if cogs, found := least[[2]int{i, k}]; found {
					checkCogs(t, b, p, q, cogs)
				} else {
					checkNoCogs(t, b, p, q)
				}
			}
		}
	}
	forEachBoard(2, 3, ".Gcf", check)
	forEachBoard(1, 6, ".go", check)
	for seed := range uint32(300) {
		lines := gearLines(3, 3, "..gcx", seed*77)
		check(boardWith(lines...), lines)
	}
	for seed := range uint32(30) {
		lines := gearLines(4, 3, ".....gx", seed*91)
		check(boardWith(lines...), lines)
	}
}

// emptyCells returns the indices of the empty cells.
func emptyCells(text string) []int {
	l := []int{}
	for i, letter := range text {
		if letter == '.' {
			l = append(l, i)
		}
	}
	return l
}

// knownCogs returns for each cell how many empty cells, itself among them, lie at least on a way to it from a first cell, or -1. It lowers the numbers of neighbours until nothing changes any more.
func knownCogs(text string, places []place, first int) []int {
	least := slices.Repeat([]int{-1}, len(text))
	least[first] = 0
	for changed := true; changed; {
		changed = false
		for i, p := range places {
			for k, q := range places {
				if !p.touches(q) || least[i] < 0 || !joins(text[k]) && text[k] != '.' {
					continue
				}
				cogs := least[i]
				if text[k] == '.' {
					cogs++
				}
				if least[k] < 0 || cogs < least[k] {
					least[k] = cogs
					changed = true
				}
			}
		}
	}
	return least
}

func TestLeastCogsOfAllSizes(t *testing.T) {
	for _, letters := range []string{"....gl", "...gcxl", "..gol", ".........c", ".oooooGc", ".lrfFxogGc"} {
		for rows := 1; rows <= 10; rows++ {
			for columns := 1; columns <= 9; columns++ {
				lines := gearLines(rows, columns, letters, uint32(rows*columns*31))
				checkCogsFrom(t, lines)
			}
		}
	}
}

// checkCogsFrom checks the least cogs between a few cells and all others.
func checkCogsFrom(t *testing.T, lines []string) {
	t.Helper()
	b, text, places := boardWith(lines...), strings.Join(lines, ""), placesOf(lines)
	for i := 0; i < len(places); i += 1 + len(places)/5 {
		if !joins(text[i]) {
			for _, q := range places {
				checkNoCogs(t, b, places[i], q)
				checkNoCogs(t, b, q, places[i])
			}
			continue
		}
		least := knownCogs(text, places, i)
		for k, q := range places {
			if joins(text[k]) && least[k] >= 0 {
				checkCogs(t, b, places[i], q, least[k])
				checkCogs(t, b, q, places[i], least[k])
			} else {
				checkNoCogs(t, b, places[i], q)
				checkNoCogs(t, b, q, places[i])
			}
		}
	}
}

func TestLoneAndMixedGears(t *testing.T) {
	forManyBoards(func(b impl.Board, lines []string) {
		text := strings.Join(lines, "")
		numbers, count := knownGroups(lines)
		lone, mixed := []int{}, []int{}
		for i := range text {
			if isGear(text[i]) && len(indicesOf(text, numbers, numbers[i], true)) == 1 {
				lone = append(lone, i)
			}
		}
		for number := range count {
			letters := ""
			for _, i := range indicesOf(text, numbers, number, true) {
				letters += string(text[i])
			}
			if strings.Contains(letters, "g") && strings.Contains(letters, "G") {
				mixed = append(mixed, number)
			}
		}
		got, ok := impl.LoneGears(b)
		checkNumbers(t, "LoneGears of "+linesText(lines), got, ok, lone)
		got, ok = impl.MixedGroups(b)
		checkNumbers(t, "MixedGroups of "+linesText(lines), got, ok, mixed)
	})
}

func TestAlignedGears(t *testing.T) {
	forManyBoards(func(b impl.Board, lines []string) {
		text := strings.Join(lines, "")
		numbers, count := knownGroups(lines)
		want := text
		for number := range count {
			gears := indicesOf(text, numbers, number, true)
			want = withLetter(want, gears, func(byte) byte { return text[gears[0]] })
		}
		aligned, ok := impl.AlignGears(b)
		checkBoard(t, "AlignGears", aligned, ok, linesLike(lines, want))
		mixed, ok := impl.MixedGroups(aligned)
		checkNumbers(t, "MixedGroups of aligned gears", mixed, ok, nil)
	})
}

func TestLargestGroups(t *testing.T) {
	forManyBoards(func(b impl.Board, lines []string) {
		text := strings.Join(lines, "")
		numbers, count := knownGroups(lines)
		if count == 0 {
			checkNoLargest(t, b)
			return
		}
		gears := []int{}
		for number := range count {
			gears = append(gears, len(indicesOf(text, numbers, number, true)))
		}
		checkLargest(t, b, slices.Index(gears, slices.Max(gears)), slices.Max(gears))
	})
}

func TestBoardsWithoutCogs(t *testing.T) {
	forManyBoards(func(b impl.Board, lines []string) {
		text := strings.Join(lines, "")
		numbers, count := knownGroups(lines)
		want := text
		for number := range count {
			if len(indicesOf(text, numbers, number, true)) <= 1 {
				want = withLetter(want, indicesOf(text, numbers, number, false), func(letter byte) byte {
					if letter == 'c' {
						return '.'
					}
					return letter
				})
			}
		}
		less, ok := impl.WithoutCogs(b)
		checkBoard(t, "WithoutCogs", less, ok, linesLike(lines, want))
	})
}

func TestDocumentExampleOfGears(t *testing.T) {
	b, _ := impl.ParseBoard("gcG.f.g\n")
	numbers, ok := impl.GearGroups(b)
	checkNumbers(t, "GearGroups", numbers, ok, []int{0, 0, 0, -1, -1, -1, 1})
	turned, ok := impl.TurnGear(b, 0, 0)
	if text, fine := impl.BoardText(turned); !ok || !fine || text != "Gcg.f.g\n" {
		t.Errorf("TurnGear = %q, %v", text, ok)
	}
	checkNoCogs(t, b, place{0, 0}, place{0, 6})
	checkNoCogs(t, b, place{0, 6}, place{0, 2})
	checkJoined(t, b, place{0, 0}, place{0, 2}, true, true)
	checkJoined(t, b, place{0, 0}, place{0, 6}, false, true)
	checkJoined(t, b, place{0, 0}, place{0, 4}, false, false)
}

func TestBoardsWithoutGearsAndCogs(t *testing.T) {
	for _, lines := range [][]string{{"."}, {"lrfFxo."}, {"..", ".."}, {"fF", "xo", "lr"}, slices.Repeat([]string{"fFfFfFfFf"}, 10)} {
		b := boardWith(lines...)
		numbers, ok := impl.GearGroups(b)
		checkNumbers(t, "GearGroups", numbers, ok, slices.Repeat([]int{-1}, len(b.Cells)))
		checkCount(t, b, 0)
		lone, ok := impl.LoneGears(b)
		checkNumbers(t, "LoneGears", lone, ok, nil)
		mixed, ok := impl.MixedGroups(b)
		checkNumbers(t, "MixedGroups", mixed, ok, nil)
		aligned, ok := impl.AlignGears(b)
		checkBoard(t, "AlignGears", aligned, ok, lines)
		less, ok := impl.WithoutCogs(b)
		checkBoard(t, "WithoutCogs", less, ok, lines)
		checkNoLargest(t, b)
		checkNoGears(t, b, place{0, 0})
	}
}

// checkNoGears checks that a cell is neither a gear nor a cog for all functions that ask for one.
func checkNoGears(t *testing.T, b impl.Board, p place) {
	t.Helper()
	group, ok := impl.GroupOf(b, p.row, p.column)
	checkNoNumbers(t, "GroupOf", group, ok)
	turned, ok := impl.TurnGear(b, p.row, p.column)
	checkNoBoard(t, "TurnGear", turned, ok)
	for _, other := range []place{p, {0, 0}, {b.Rows - 1, b.Columns - 1}} {
		checkJoined(t, b, p, other, false, false)
		checkJoined(t, b, other, p, false, false)
		checkNoCogs(t, b, p, other)
		checkNoCogs(t, b, other, p)
	}
}

func TestGroupsOfCogsAlone(t *testing.T) {
	b := boardWith("c.cc", "....", "..gc")
	numbers, ok := impl.GearGroups(b)
	checkNumbers(t, "GearGroups", numbers, ok, []int{0, -1, 1, 1, -1, -1, -1, -1, -1, -1, 2, 2})
	checkCount(t, b, 3)
	group, ok := impl.GroupOf(b, 0, 3)
	checkNumbers(t, "GroupOf a cog", group, ok, []int{2, 3})
	checkLargest(t, b, 2, 1)
	less, ok := impl.WithoutCogs(b)
	checkBoard(t, "WithoutCogs", less, ok, []string{"....", "....", "..g."})
	cogs := boardWith(".c.cc")
	checkLargest(t, cogs, 0, 0)
	checkCogs(t, cogs, place{0, 1}, place{0, 4}, 1)
	turned, ok := impl.TurnGear(cogs, 0, 3)
	checkNoBoard(t, "TurnGear of a cog", turned, ok)
	lone, ok := impl.LoneGears(cogs)
	checkNumbers(t, "LoneGears", lone, ok, nil)
	mixed, ok := impl.MixedGroups(cogs)
	checkNumbers(t, "MixedGroups", mixed, ok, nil)
	less, ok = impl.WithoutCogs(cogs)
	checkBoard(t, "WithoutCogs", less, ok, []string{"....."})
}

func TestGearsInBothStates(t *testing.T) {
	b := boardWith("gGcG", "o..o", "G.gc")
	mixed, ok := impl.MixedGroups(b)
	checkNumbers(t, "MixedGroups", mixed, ok, []int{0})
	aligned, ok := impl.AlignGears(b)
	checkBoard(t, "AlignGears", aligned, ok, []string{"ggcg", "o..o", "G.gc"})
	turned, ok := impl.TurnGear(b, 0, 3)
	checkBoard(t, "TurnGear", turned, ok, []string{"Ggcg", "o..o", "G.gc"})
	less, ok := impl.WithoutCogs(b)
	checkBoard(t, "WithoutCogs", less, ok, []string{"gGcG", "o..o", "G.g."})
}

// TestGearBelowTheCogOfItsGroup has groups whose numbers follow other cells than their gears do.
func TestGearBelowTheCogOfItsGroup(t *testing.T) {
	b := boardWith("..c", "G.c", "..g")
	lone, ok := impl.LoneGears(b)
	checkNumbers(t, "LoneGears", lone, ok, []int{3, 8})
	numbers, ok := impl.GearGroups(b)
	checkNumbers(t, "GearGroups", numbers, ok, []int{-1, -1, 0, 1, -1, 0, -1, -1, 0})
	// The cog is the first cell, and a search from it may well meet the gear with the greater index first.
	aligned, ok := impl.AlignGears(boardWith(".c.G", ".c.c", "gccc"))
	checkBoard(t, "AlignGears", aligned, ok, []string{".c.G", ".c.c", "Gccc"})
}

func TestCellsThatAreOneAndTheSame(t *testing.T) {
	b := boardWith("g.c", "lGo")
	for _, p := range []place{{0, 0}, {0, 2}, {1, 1}} {
		checkJoined(t, b, p, p, true, true)
		checkCogs(t, b, p, p, 0)
	}
	for _, p := range []place{{0, 1}, {1, 0}, {1, 2}} {
		checkNoGears(t, b, p)
	}
}

func TestEndsOfRowsAreNoNeighbours(t *testing.T) {
	b := boardWith("..g", "G..", "..c", "g..")
	numbers, ok := impl.GearGroups(b)
	checkNumbers(t, "GearGroups", numbers, ok, []int{-1, -1, 0, 1, -1, -1, -1, -1, 2, 3, -1, -1})
	turned, ok := impl.TurnGear(b, 1, 0)
	checkBoard(t, "TurnGear", turned, ok, []string{"..g", "g..", "..c", "g.."})
	checkJoined(t, b, place{0, 2}, place{1, 0}, false, true)
	checkCogs(t, b, place{0, 2}, place{1, 0}, 2)
	checkNoCogs(t, boardWith("oog", "goo"), place{0, 2}, place{1, 0})
	checkNoCogs(t, boardWith("go.", ".og"), place{0, 0}, place{1, 2})
	one := boardWith("g", "c", "G")
	checkJoined(t, one, place{0, 0}, place{2, 0}, true, true)
	checkCount(t, boardWith("g.", ".g"), 2)
	checkCount(t, boardWith(".g", "g."), 2)
}

func TestOtherPartsSeparate(t *testing.T) {
	for _, letter := range []string{"l", "r", "f", "F", "x", "o"} {
		checkNoCogs(t, boardWith("g"+letter+"G"), place{0, 0}, place{0, 2})
		checkNoCogs(t, boardWith("c.", letter+letter, ".g"), place{0, 0}, place{2, 1})
		checkNoCogs(t, boardWith("g"+letter+".", letter+"..", "..c"), place{0, 0}, place{2, 2})
		checkCogs(t, boardWith("g"+letter+"G", "..."), place{0, 0}, place{0, 2}, 3)
		checkCogs(t, boardWith("g"+letter+"G", "ccc"), place{0, 0}, place{0, 2}, 0)
	}
	checkCogs(t, boardWith("g.G"), place{0, 2}, place{0, 0}, 1)
}

func TestCogsByOtherGroups(t *testing.T) {
	checkCogs(t, boardWith("g.ccG.cg"), place{0, 0}, place{0, 7}, 2)
	b := boardWith("g......g", "........", ".cccccc.")
	checkCogs(t, b, place{0, 0}, place{0, 7}, 4)
	checkCogs(t, b, place{0, 7}, place{0, 0}, 4)
	checkCogs(t, b, place{0, 0}, place{2, 3}, 2)
}

func TestGroupsWithEquallyManyGears(t *testing.T) {
	checkLargest(t, boardWith("gg.GG"), 0, 2)
	checkLargest(t, boardWith("g.gG.Gg.g"), 1, 2)
	checkLargest(t, boardWith("ccc.G.g"), 1, 1)
	checkLargest(t, boardWith("c.c"), 0, 0)
	checkLargest(t, boardWith("cccg", "....", "g.gg"), 2, 2)
}

func TestBoardThatIsOneGroup(t *testing.T) {
	all := []int{}
	for i := range 90 {
		all = append(all, i)
	}
	for letter, gears := range map[string]int{"g": 90, "G": 90, "c": 0} {
		lines := slices.Repeat([]string{strings.Repeat(letter, 9)}, 10)
		b := boardWith(lines...)
		numbers, ok := impl.GearGroups(b)
		checkNumbers(t, "GearGroups", numbers, ok, make([]int, 90))
		checkCount(t, b, 1)
		group, ok := impl.GroupOf(b, 9, 8)
		checkNumbers(t, "GroupOf", group, ok, all)
		checkJoined(t, b, place{0, 0}, place{9, 8}, true, true)
		checkCogs(t, b, place{0, 8}, place{9, 0}, 0)
		checkLargest(t, b, 0, gears)
		turned, ok := impl.TurnGear(b, 4, 4)
		if gears == 0 {
			checkNoBoard(t, "TurnGear", turned, ok)
		} else {
			checkBoard(t, "TurnGear", turned, ok, slices.Repeat([]string{strings.Repeat(string(otherState(letter[0])), 9)}, 10))
		}
	}
}

func TestLongWays(t *testing.T) {
	empty := slices.Repeat([]string{"........."}, 8)
	checkCogs(t, boardWith(slices.Concat([]string{"g........"}, empty, []string{"........c"})...), place{0, 0}, place{9, 8}, 16)
	winding := []string{"g........", "oooooooo.", ".........", ".oooooooo", ".........", "oooooooo.", ".........", ".oooooooo", "........g", "ooooooooo"}
	checkCogs(t, boardWith(winding...), place{0, 0}, place{8, 8}, 47)
	cogs := slices.Clone(winding)
	for row, line := range cogs {
		cogs[row] = strings.ReplaceAll(line, ".", "c")
	}
	checkJoined(t, boardWith(cogs...), place{0, 0}, place{8, 8}, true, true)
	turned, ok := impl.TurnGear(boardWith(cogs...), 8, 8)
	cogs[0], cogs[8] = "Gcccccccc", "ccccccccG"
	checkBoard(t, "TurnGear", turned, ok, cogs)
}

func TestGearsOutsideOfBoards(t *testing.T) {
	places := append([]int{10, 11, 89, 90, 1 << 62, -1 << 62, 1<<63/9 + 1}, wildNumbers...)
	for _, lines := range [][]string{{"g"}, {"gGcgGcgGc"}, {"gc", "cG", "Gg"}, slices.Repeat([]string{"gggcccGGG"}, 10)} {
		b := boardWith(lines...)
		for _, row := range places {
			for _, column := range places {
				if row < 0 || row >= b.Rows || column < 0 || column >= b.Columns {
					checkNoGears(t, b, place{row, column})
				}
			}
		}
	}
}

func TestOtherCellsThanGears(t *testing.T) {
	for _, letter := range []string{".", "l", "r", "f", "F", "x", "o"} {
		for _, lines := range [][]string{{letter}, {"g" + letter + "c"}, {"gG", letter + "c"}} {
			b := boardWith(lines...)
			at := strings.Index(strings.Join(lines, ""), letter)
			checkNoGears(t, b, place{at / b.Columns, at % b.Columns})
		}
	}
}

// checkGearsRefused checks that no function takes a board.
func checkGearsRefused(t *testing.T, b impl.Board) {
	t.Helper()
	numbers, ok := impl.GearGroups(b)
	checkNoNumbers(t, "GearGroups", numbers, ok)
	if count, ok := impl.CountGroups(b); ok || count != 0 {
		t.Errorf("CountGroups(%v) = %d, %v", b, count, ok)
	}
	lone, ok := impl.LoneGears(b)
	checkNoNumbers(t, "LoneGears", lone, ok)
	mixed, ok := impl.MixedGroups(b)
	checkNoNumbers(t, "MixedGroups", mixed, ok)
	aligned, ok := impl.AlignGears(b)
	checkNoBoard(t, "AlignGears", aligned, ok)
	checkNoLargest(t, b)
	less, ok := impl.WithoutCogs(b)
	checkNoBoard(t, "WithoutCogs", less, ok)
	for _, p := range []place{{0, 0}, {0, 1}, {1, 0}, {b.Rows - 1, b.Columns - 1}, {-1, -1}} {
		checkNoGears(t, b, p)
	}
}

func TestGearsOfInvalidBoards(t *testing.T) {
	for _, plain := range invalidBoards() {
		checkGearsRefused(t, plain)
		// The same with gears in place of the valid cells, so that it is the size or the other cells that are wrong.
		b := copyBoard(plain)
		for i, c := range b.Cells {
			if isKnown(c) {
				b.Cells[i] = impl.Cell{Kind: impl.PtGear}
			}
		}
		if !impl.IsBoard(b) {
			checkGearsRefused(t, b)
		}
	}
	for _, size := range [][2]int{{11, 1}, {1, 10}, {11, 9}, {10, 10}} {
		checkGearsRefused(t, boardWith(gearLines(size[0], size[1], "gGc", 1)...))
	}
	missing, _ := withSpare(impl.Board{Rows: 2, Columns: 2, Cells: slices.Repeat([]impl.Cell{{Kind: impl.PtGear}}, 3)})
	checkGearsRefused(t, missing)
}

// callGears calls every function of the chapter, and returns the boards and the numbers that came back.
func callGears(b impl.Board) ([]impl.Board, [][]int) {
	aligned, _ := impl.AlignGears(b)
	less, _ := impl.WithoutCogs(b)
	boards := []impl.Board{aligned, less}
	numbers, _ := impl.GearGroups(b)
	lone, _ := impl.LoneGears(b)
	mixed, _ := impl.MixedGroups(b)
	count, _ := impl.CountGroups(b)
	largest, gears, _ := impl.LargestGroup(b)
	lists := [][]int{numbers, lone, mixed, {count, largest, gears}}
	for _, p := range []place{{0, 0}, {0, b.Columns - 1}, {b.Rows - 1, 0}, {b.Rows / 2, b.Columns / 2}, {b.Rows, 0}} {
		group, _ := impl.GroupOf(b, p.row, p.column)
		cogs, _ := impl.LeastCogs(b, p.row, p.column, b.Rows-1, b.Columns-1)
		lists = append(lists, group, []int{cogs})
		impl.AreJoined(b, p.row, p.column, b.Rows-1, b.Columns-1)
		turned, _ := impl.TurnGear(b, p.row, p.column)
		boards = append(boards, turned)
	}
	return boards, lists
}

func TestGearBoardsStayAsTheyAre(t *testing.T) {
	check := func(plain impl.Board, _ []string) {
		b, whole := withSpare(plain)
		before := slices.Clone(whole)
		boards, lists := callGears(b)
		if !slices.Equal(whole, before) {
			t.Fatalf("%v was changed, or what is behind its cells", plain)
		}
		wantBoards, wantLists := callGears(copyBoard(plain))
		if !slices.EqualFunc(boards, wantBoards, sameBoards) || !slices.EqualFunc(lists, wantLists, slices.Equal) {
			t.Errorf("other results for %v with cells behind it", plain)
		}
	}
	forGearBoards(check)
	for _, b := range invalidBoards() {
		check(b, nil)
	}
}

func TestGearResultsShareNothing(t *testing.T) {
	forGearBoards(func(plain impl.Board, lines []string) {
		b, whole := withSpare(plain)
		before := slices.Clone(whole)
		boards, lists := callGears(b)
		wantBoards, wantLists := callGears(copyBoard(plain))
		for i, r := range boards {
			overwrite(r)
			for k := i + 1; k < len(boards); k++ {
				if !sameBoards(boards[k], wantBoards[k]) {
					t.Fatalf("results %d and %d of %q share cells", i, k, lines)
				}
			}
		}
		for i, l := range lists {
			clear(l[:cap(l)])
			for k := i + 1; k < len(lists); k++ {
				if !slices.Equal(lists[k], wantLists[k]) {
					t.Fatalf("lists %d and %d of %q share numbers", i, k, lines)
				}
			}
		}
		again, listsAgain := callGears(b)
		if !slices.Equal(whole, before) || !slices.EqualFunc(again, wantBoards, sameBoards) || !slices.EqualFunc(listsAgain, wantLists, slices.Equal) {
			t.Fatalf("a result shares cells with %q", lines)
		}
	})
}
