package tests

import (
	"math"
	"slices"
	"strings"
	"testing"

	"loop.example/g00942/impl"
)

// fallLetters are letters of boards through which many marbles get far, with many turned parts, with crosses, and with stops.
var fallLetters = []string{"....lrfFx", "..gGc", ".gG", "xxxlr.", ".....ofF", "f", "gGgGcF.", "xrlF", ".lrfFxogGc"}

// ends of marbles, by the numbers of the document.
func atBottom(row, column int) impl.Fall { return impl.Fall{End: 1, Row: row, Column: column} }
func inStop(row, column int) impl.Fall   { return impl.Fall{End: 2, Row: row, Column: column} }
func lostAt(row, column int) impl.Fall   { return impl.Fall{End: 3, Row: row, Column: column} }

// knownWay is what a marble does, followed by the letters of the document's table.
type knownWay struct {
	places []place
	end    impl.Fall
	after  []string
}

// knownFall follows a marble through lines whose groups have the given numbers.
func knownFall(lines []string, numbers []int, column int) knownWay {
	text, columns := strings.Join(lines, ""), len(lines[0])
	places, side := []place{}, 0
	for row := range lines {
		places = append(places, place{row, column})
		at := row*columns + column
		letter := text[at]
		if letter == 'o' {
			return knownWay{places, inStop(row, column), linesLike(lines, text)}
		}
		step := knownCells[slices.IndexFunc(knownCells, func(k knownCell) bool { return k.letter == string(letter) })].ways[side+1]
		switch letter {
		case 'f', 'F':
			text = withLetter(text, []int{at}, func(l byte) byte { return l ^ ('f' ^ 'F') })
		case 'g', 'G':
			text = withLetter(text, indicesOf(text, numbers, numbers[at], true), otherState)
		}
		side, column = -step, column+step
		if column == -1 || column == columns {
			return knownWay{places, lostAt(row, column), linesLike(lines, text)}
		}
	}
	return knownWay{places, atBottom(len(lines), column), linesLike(lines, text)}
}

// knownFalls follows marbles one after the other.
func knownFalls(lines []string, columns []int) ([]impl.Fall, []string) {
	numbers, _ := knownGroups(lines)
	ends := []impl.Fall{}
	for _, column := range columns {
		way := knownFall(lines, numbers, column)
		ends, lines = append(ends, way.end), way.after
	}
	return ends, lines
}

// forFallSizes calls check for boards of all sizes.
func forFallSizes(check func(b impl.Board, lines []string)) {
	for rows := 1; rows <= 10; rows++ {
		for columns := 1; columns <= 9; columns++ {
			for i, letters := range fallLetters {
				lines := gearLines(rows, columns, letters, uint32(rows*1000+columns*100+i))
				check(boardWith(lines...), lines)
			}
		}
	}
}

// forFallBoards calls check for boards of all sizes, and for all boards of a few small ones.
func forFallBoards(check func(b impl.Board, lines []string)) {
	forFallSizes(check)
	forEachBoard(1, 1, ".lrfFxogGc", check)
	forEachBoard(3, 1, ".lrfFxogGc", check)
	forEachBoard(1, 3, ".lrfFxogGc", check)
	forEachBoard(2, 2, ".rFogGc", check)
	forEachBoard(3, 2, "rxgG", check)
	forEachBoard(2, 3, "lfgc", check)
}

// marblesFor returns n entry columns that follow no short pattern.
func marblesFor(n, columns int, seed uint32) []int {
	l := []int{}
	for range n {
		seed = seed*1664525 + 1013904223
		l = append(l, int((seed>>16)%uint32(columns)))
	}
	return l
}

func checkFall(t *testing.T, b impl.Board, column int, want impl.Fall) {
	t.Helper()
	if end, ok := impl.FallOf(b, column); !ok || end != want {
		t.Errorf("FallOf(%v, %d) = %v, %v; want %v", b, column, end, ok, want)
	}
}

func checkWay(t *testing.T, b impl.Board, column int, want []place) {
	t.Helper()
	way, ok := impl.WayOf(b, column)
	same := slices.EqualFunc(way, want, func(l []int, p place) bool { return slices.Equal(l, []int{p.row, p.column}) })
	if !ok || !same {
		t.Errorf("WayOf(%v, %d) = %v, %v; want %v", b, column, way, ok, want)
	}
}

// changedLetters returns the indices of the letters that are others.
func changedLetters(before, after []string) []int {
	l, text := []int{}, strings.Join(after, "")
	for i, letter := range strings.Join(before, "") {
		if byte(letter) != text[i] {
			l = append(l, i)
		}
	}
	return l
}

// checkMarble checks all that one marble does.
func checkMarble(t *testing.T, lines []string, column int, want knownWay) {
	t.Helper()
	b := boardWith(lines...)
	checkFall(t, b, column, want.end)
	checkWay(t, b, column, want.places)
	after, ok := impl.BoardAfter(b, column)
	checkBoard(t, "BoardAfter "+linesText(lines), after, ok, want.after)
	turned, ok := impl.TurnedBy(b, column)
	checkNumbers(t, "TurnedBy of "+linesText(lines), turned, ok, changedLetters(lines, want.after))
}

func checkFalls(t *testing.T, b impl.Board, columns []int, want []impl.Fall, lines []string) {
	t.Helper()
	ends, after, ok := impl.FallsOf(b, columns)
	if !ok || !slices.Equal(ends, want) {
		t.Errorf("FallsOf(%v, %v) = %v, %v; want %v", b, columns, ends, ok, want)
	}
	checkBoard(t, "the board of FallsOf", after, ok, lines)
}

func checkCounts(t *testing.T, b impl.Board, columns []int, want ...int) {
	t.Helper()
	counts, ok := impl.ArrivalCounts(b, columns)
	checkNumbers(t, "ArrivalCounts", counts, ok, want)
}

func checkSame(t *testing.T, a, b impl.Board, want, wantOK bool) {
	t.Helper()
	if same, ok := impl.SameFalls(a, b); same != want || ok != wantOK {
		t.Errorf("SameFalls(%v, %v) = %v, %v; want %v, %v", a, b, same, ok, want, wantOK)
	}
}

// checkFirst checks the first different marble of both boards, in both orders; -1 stands for none.
func checkFirst(t *testing.T, a, b impl.Board, columns []int, want int) {
	t.Helper()
	for _, l := range [][2]impl.Board{{a, b}, {b, a}} {
		if i, ok := impl.FirstDifferent(l[0], l[1], columns); i != max(want, 0) || ok != (want >= 0) {
			t.Errorf("FirstDifferent(%v, %v, %v) = %d, %v; want %d", l[0], l[1], columns, i, ok, want)
		}
	}
}

func TestFallConstants(t *testing.T) {
	if impl.EnBottom != 1 || impl.EnStop != 2 || impl.EnLost != 3 || impl.MaxMarbles != 60 {
		t.Error("constants", impl.EnBottom, impl.EnStop, impl.EnLost, impl.MaxMarbles)
	}
}

func TestSingleMarbles(t *testing.T) {
	forFallBoards(func(b impl.Board, lines []string) {
		numbers, _ := knownGroups(lines)
		for column := range b.Columns {
			checkMarble(t, lines, column, knownFall(lines, numbers, column))
		}
	})
}

// passCell returns where the marble goes next and the board behind it, by the functions of the chapters before; it fails for a stop.
func passCell(t *testing.T, b impl.Board, row, column, side int) (int, impl.Board, bool) {
	t.Helper()
	c, _ := impl.CellAt(b, row, column)
	step, ok := impl.GoesTo(c, side)
	if ok && c.Kind == impl.PtFlip {
		turned, _ := impl.TurnCell(c)
		b, _ = impl.PutCell(b, row, column, turned)
	}
	if ok && c.Kind == impl.PtGear {
		b, _ = impl.TurnGear(b, row, column)
	}
	return step, b, ok
}

// TestMarblesGoAsTheirCellsSay looks at the promise itself: each cell of the way follows from the one before, and the last one tells the end.
func TestMarblesGoAsTheirCellsSay(t *testing.T) {
	forFallBoards(func(b impl.Board, lines []string) {
		for column := range b.Columns {
			way, ok := impl.WayOf(b, column)
			if !ok || len(way) == 0 {
				t.Fatalf("WayOf(%q, %d) = %v, %v", lines, column, way, ok)
			}
			state, side, next := b, 0, column
			var end impl.Fall
			for row, cell := range way {
				if !slices.Equal(cell, []int{row, next}) || end != (impl.Fall{}) {
					t.Fatalf("WayOf(%q, %d) = %v, wrong from row %d on", lines, column, way, row)
				}
				step, behind, goes := passCell(t, state, row, next, side)
				state, side, next = behind, -step, next+step
				switch {
				case !goes:
					end = inStop(row, next)
				case next < 0 || next >= b.Columns:
					end = lostAt(row, next)
				case row == b.Rows-1:
					end = atBottom(b.Rows, next)
				}
			}
			if end == (impl.Fall{}) {
				t.Fatalf("WayOf(%q, %d) = %v stops before its end", lines, column, way)
			}
			checkFall(t, b, column, end)
			after, ok := impl.BoardAfter(b, column)
			if !ok || !sameBoards(after, state) {
				t.Fatalf("BoardAfter(%q, %d) = %v, %v; want %v", lines, column, after, ok, state)
			}
		}
	})
}

// TestMarblesTurnWhatTheyPass counts how often flips and groups are on the way, instead of following their states.
func TestMarblesTurnWhatTheyPass(t *testing.T) {
	forFallBoards(func(b impl.Board, lines []string) {
		text := strings.Join(lines, "")
		numbers, _ := knownGroups(lines)
		for column := range b.Columns {
			way, _ := impl.WayOf(b, column)
			passed := map[int]int{}
			turned := []int{}
			for _, cell := range way {
				i := cell[0]*b.Columns + cell[1]
				if text[i] == 'f' || text[i] == 'F' {
					turned = append(turned, i)
				}
				if isGear(text[i]) {
					passed[numbers[i]]++
				}
			}
			for number, times := range passed {
				if times%2 == 1 {
					turned = append(turned, indicesOf(text, numbers, number, true)...)
				}
			}
			slices.Sort(turned)
			got, ok := impl.TurnedBy(b, column)
			checkNumbers(t, "TurnedBy of "+linesText(lines), got, ok, turned)
			after, _ := impl.BoardAfter(b, column)
			different, ok := impl.DifferentCells(b, after)
			checkNumbers(t, "cells that differ behind a marble", different, ok, turned)
			for _, i := range turned {
				if c, ok := impl.TurnCell(b.Cells[i]); !ok || after.Cells[i] != c {
					t.Fatalf("cell %d of %q is %v behind a marble", i, lines, after.Cells[i])
				}
			}
		}
	})
}

func TestMarblesOneAfterTheOther(t *testing.T) {
	forFallBoards(func(b impl.Board, lines []string) {
		columns := marblesFor(12, b.Columns, uint32(len(lines)))
		ends, after := knownFalls(lines, columns)
		checkFalls(t, b, columns, ends, after)
		counts := make([]int, b.Columns+2)
		state := b
		for i, column := range columns {
			checkFall(t, state, column, ends[i])
			state, _ = impl.BoardAfter(state, column)
			switch ends[i].End {
			case 1:
				counts[ends[i].Column]++
			case 2:
				counts[b.Columns]++
			default:
				counts[b.Columns+1]++
			}
		}
		checkCounts(t, b, columns, counts...)
		checkBoard(t, "BoardAfter each marble", state, true, after)
	})
}

func TestArrivalsAddUp(t *testing.T) {
	for n := 0; n <= 60; n++ {
		for i, letters := range fallLetters {
			lines := gearLines(1+n%10, 1+(n/2)%9, letters, uint32(n*31+i))
			b := boardWith(lines...)
			counts, ok := impl.ArrivalCounts(b, marblesFor(n, b.Columns, uint32(i)))
			sum := 0
			for _, count := range counts {
				sum += count
			}
			if !ok || len(counts) != b.Columns+2 || sum != n {
				t.Errorf("ArrivalCounts of %d marbles through %q = %v, %v", n, lines, counts, ok)
			}
		}
	}
}

func TestEntriesAndMetCells(t *testing.T) {
	forFallBoards(func(b impl.Board, lines []string) {
		numbers, _ := knownGroups(lines)
		met := slices.Repeat([]bool{false}, len(b.Cells))
		entries := make([][]int, b.Columns)
		for column := range b.Columns {
			way := knownFall(lines, numbers, column)
			for _, p := range way.places {
				met[p.row*b.Columns+p.column] = true
			}
			if way.end.End == 1 {
				entries[way.end.Column] = append(entries[way.end.Column], column)
			}
		}
		for column := range b.Columns {
			l, ok := impl.ColumnsTo(b, column)
			checkNumbers(t, "ColumnsTo of "+linesText(lines), l, ok, entries[column])
		}
		cells := []int{}
		for i := range met {
			if met[i] {
				cells = append(cells, i)
			}
		}
		l, ok := impl.MetCells(b)
		checkNumbers(t, "MetCells of "+linesText(lines), l, ok, cells)
	})
}

// checkPair checks both functions that compare two boards.
func checkPair(t *testing.T, a, b []string, columns []int) {
	t.Helper()
	first, second := boardWith(a...), boardWith(b...)
	if first.Columns != second.Columns {
		checkSame(t, first, second, false, false)
		checkFirst(t, first, second, columns, -1)
		return
	}
	numbers, _ := knownGroups(a)
	others, _ := knownGroups(b)
	same := true
	for column := range first.Columns {
		same = same && knownFall(a, numbers, column).end == knownFall(b, others, column).end
	}
	checkSame(t, first, second, same, true)
	ends, _ := knownFalls(a, columns)
	otherEnds, _ := knownFalls(b, columns)
	want := -1
	for i := range ends {
		if ends[i] != otherEnds[i] {
			want = i
			break
		}
	}
	checkFirst(t, first, second, columns, want)
}

func TestPairsOfBoards(t *testing.T) {
	forEachBoard(2, 2, ".Fg", func(_ impl.Board, a []string) {
		forEachBoard(2, 2, "lFo", func(_ impl.Board, b []string) {
			checkPair(t, a, b, []int{0, 1, 1, 0})
		})
	})
	forEachBoard(1, 3, ".lfo", func(_ impl.Board, a []string) {
		forEachBoard(1, 3, ".fo", func(_ impl.Board, b []string) { checkPair(t, a, b, []int{1, 1, 2, 0, 1}) })
		forEachBoard(2, 3, "lo", func(_ impl.Board, b []string) { checkPair(t, a, b, []int{2, 0, 1}) })
	})
	for seed := range uint32(400) {
		letters := fallLetters[int(seed)%len(fallLetters)]
		lines := gearLines(1+int(seed)%10, 1+int(seed/3)%9, letters, seed)
		columns := marblesFor(int(seed)%61, len(lines[0]), seed)
		checkPair(t, lines, lines, columns)
		checkPair(t, lines, gearLines(1+int(seed/2)%10, len(lines[0]), letters, seed+5), columns)
		at := int(seed*7) % len(lines[0])
		changed := slices.Clone(lines)
		changed[len(lines)-1] = withLetter(changed[len(lines)-1], []int{at}, func(byte) byte { return 'F' })
		checkPair(t, lines, changed, columns)
	}
}

func TestDocumentExampleOfFalls(t *testing.T) {
	left, right := boardWith("f"), boardWith("F")
	checkFirst(t, left, right, []int{0}, 0)
	checkFirst(t, left, right, []int{0, 0, 0}, 0)
	checkFall(t, left, 0, lostAt(0, -1))
	checkFall(t, right, 0, lostAt(0, 1))
}

func TestMarblesLostAtOnce(t *testing.T) {
	b := boardWith("l.r", "ooo")
	checkFall(t, b, 0, lostAt(0, -1))
	checkFall(t, b, 2, lostAt(0, 3))
	checkWay(t, b, 0, []place{{0, 0}})
	checkWay(t, b, 2, []place{{0, 2}})
	// What loses the marble turns behind it all the same.
	turning := boardWith("f.G", "ooc")
	checkFall(t, turning, 0, lostAt(0, -1))
	checkFall(t, turning, 2, lostAt(0, 3))
	after, ok := impl.BoardAfter(turning, 0)
	checkBoard(t, "BoardAfter", after, ok, []string{"F.G", "ooc"})
	after, ok = impl.BoardAfter(turning, 2)
	checkBoard(t, "BoardAfter", after, ok, []string{"f.g", "ooc"})
	turned, ok := impl.TurnedBy(turning, 2)
	checkNumbers(t, "TurnedBy", turned, ok, []int{2})
	checkCounts(t, turning, []int{0, 2, 0, 2}, 0, 0, 0, 2, 2)
}

func TestMarblesLostFromTheLastRow(t *testing.T) {
	b := boardWith("..", "lr")
	checkFall(t, b, 0, lostAt(1, -1))
	checkFall(t, b, 1, lostAt(1, 2))
	checkWay(t, b, 1, []place{{0, 1}, {1, 1}})
	checkFall(t, boardWith("r..", ".x.", "..x"), 0, lostAt(2, 3))
	checkFall(t, boardWith("..l", ".x.", "x.."), 2, lostAt(2, -1))
	checkCounts(t, b, []int{0, 1}, 0, 0, 0, 2)
}

func TestMarblesInStops(t *testing.T) {
	b := boardWith(".o.", "F..", "..o")
	checkFall(t, b, 1, inStop(0, 1))
	checkWay(t, b, 1, []place{{0, 1}})
	turned, ok := impl.TurnedBy(b, 1)
	checkNumbers(t, "TurnedBy", turned, ok, nil)
	checkFall(t, b, 2, inStop(2, 2))
	checkWay(t, b, 2, []place{{0, 2}, {1, 2}, {2, 2}})
	checkFall(t, boardWith("o"), 0, inStop(0, 0))
	// One that a stop holds is taken away: the next one comes to the same stop, and nothing is in its way.
	checkFalls(t, b, []int{1, 1, 2, 2}, []impl.Fall{inStop(0, 1), inStop(0, 1), inStop(2, 2), inStop(2, 2)}, []string{".o.", "F..", "..o"})
	checkFalls(t, b, []int{0, 0}, []impl.Fall{atBottom(3, 1), lostAt(1, -1)}, []string{".o.", "F..", "..o"})
	// What was passed before the stop has turned.
	flip := boardWith("F.", ".o")
	checkFalls(t, flip, []int{0, 0, 0}, []impl.Fall{inStop(1, 1), lostAt(0, -1), inStop(1, 1)}, []string{"f.", ".o"})
	checkCounts(t, flip, []int{0, 0, 0}, 0, 0, 2, 1)
}

func TestBoardsOfOneCell(t *testing.T) {
	ends := map[string]impl.Fall{".": atBottom(1, 0), "c": atBottom(1, 0), "x": atBottom(1, 0), "o": inStop(0, 0), "l": lostAt(0, -1), "f": lostAt(0, -1), "g": lostAt(0, -1), "r": lostAt(0, 1), "F": lostAt(0, 1), "G": lostAt(0, 1)}
	after := map[string]string{"f": "F", "F": "f", "g": "G", "G": "g"}
	for letter, end := range ends {
		b := boardWith(letter)
		want := []int{}
		if end.End == 1 {
			want = []int{0}
		}
		entries, ok := impl.ColumnsTo(b, 0)
		checkNumbers(t, "ColumnsTo "+letter, entries, ok, want)
		met, ok := impl.MetCells(b)
		checkNumbers(t, "MetCells "+letter, met, ok, []int{0})
		way := knownWay{[]place{{0, 0}}, end, []string{letter}}
		if other, turns := after[letter]; turns {
			way.after = []string{other}
		}
		checkMarble(t, []string{letter}, 0, way)
	}
}

func TestBoardsOfOneColumn(t *testing.T) {
	b := boardWith(".", "x", "c", ".")
	checkFall(t, b, 0, atBottom(4, 0))
	checkWay(t, b, 0, []place{{0, 0}, {1, 0}, {2, 0}, {3, 0}})
	checkCounts(t, b, []int{0, 0, 0}, 3, 0, 0)
	checkFalls(t, boardWith("c", "f", "o"), []int{0, 0}, []impl.Fall{lostAt(1, -1), lostAt(1, 1)}, []string{"c", "f", "o"})
	checkCounts(t, boardWith(".", "o"), []int{0, 0}, 0, 2, 0)
}

func TestNoMarbles(t *testing.T) {
	for _, columns := range [][]int{nil, {}} {
		b := boardWith("fG.", "o.c")
		checkFalls(t, b, columns, nil, []string{"fG.", "o.c"})
		checkCounts(t, b, columns, 0, 0, 0, 0, 0)
		checkCounts(t, boardWith("r"), columns, 0, 0, 0)
		checkFirst(t, b, boardWith("Fg.", "o.c"), columns, -1)
	}
}

func TestMostMarbles(t *testing.T) {
	b := boardWith(".f.", "...")
	most := slices.Repeat([]int{1}, 60)
	ends := slices.Repeat([]impl.Fall{atBottom(2, 0), atBottom(2, 2)}, 30)
	checkFalls(t, b, most, ends, []string{".f.", "..."})
	checkCounts(t, b, most, 30, 0, 30, 0, 0)
	checkFalls(t, b, most[:59], ends[:59], []string{".F.", "..."})
	other := slices.Repeat([]int{0}, 60)
	other[59] = 1
	checkFirst(t, b, boardWith(".F.", "..."), other, 59)
	for _, n := range []int{61, 62, 120, 1000, 100000} {
		checkListRefused(t, b, slices.Repeat([]int{1}, n))
	}
}

// TestGearsMetOnceMore has marbles that pass several gears of one group: each passing turns all of them.
func TestGearsMetOnceMore(t *testing.T) {
	twice := []string{".g", "gc"}
	checkMarble(t, twice, 1, knownWay{[]place{{0, 1}, {1, 0}}, atBottom(2, 1), twice})
	checkMarble(t, []string{".g", "gc", ".g"}, 1, knownWay{[]place{{0, 1}, {1, 0}, {2, 1}}, atBottom(3, 0), []string{".G", "Gc", ".G"}})
	// In different states the gears of a group are turned one by one, and stay different.
	checkMarble(t, []string{".g", "Gc"}, 1, knownWay{[]place{{0, 1}, {1, 0}}, lostAt(1, -1), []string{".g", "Gc"}})
	// Without the cog they are two groups, and each one is turned once.
	checkMarble(t, []string{".g", "g."}, 1, knownWay{[]place{{0, 1}, {1, 0}}, lostAt(1, -1), []string{".G", "G."}})
	all := slices.Repeat([]string{"ggggggggg"}, 10)
	checkFall(t, boardWith(all...), 8, atBottom(10, 8))
	turned, ok := impl.TurnedBy(boardWith(all...), 8)
	checkNumbers(t, "TurnedBy", turned, ok, nil)
	checkFall(t, boardWith(all[1:]...), 8, atBottom(9, 7))
	after, ok := impl.BoardAfter(boardWith(all[1:]...), 8)
	checkBoard(t, "BoardAfter", after, ok, slices.Repeat([]string{"GGGGGGGGG"}, 9))
	checkFalls(t, boardWith(all...), []int{0, 8}, []impl.Fall{lostAt(0, -1), lostAt(0, 9)}, all)
}

func TestOnlyPassedGroupsTurn(t *testing.T) {
	lines := []string{"gcG.G", "....c", "g.f.."}
	checkMarble(t, lines, 0, knownWay{[]place{{0, 0}}, lostAt(0, -1), []string{"Gcg.G", "....c", "g.f.."}})
	checkMarble(t, lines, 2, knownWay{[]place{{0, 2}, {1, 3}, {2, 3}}, atBottom(3, 3), []string{"Gcg.G", "....c", "g.f.."}})
	checkMarble(t, lines, 4, knownWay{[]place{{0, 4}}, lostAt(0, 5), []string{"gcG.g", "....c", "g.f.."}})
	// A cog lets the marble pass, and does not turn its group.
	checkMarble(t, lines, 1, knownWay{[]place{{0, 1}, {1, 1}, {2, 1}}, atBottom(3, 1), lines})
	checkMarble(t, []string{"c.", "g."}, 0, knownWay{[]place{{0, 0}, {1, 0}}, lostAt(1, -1), []string{"c.", "G."}})
}

func TestSidesInCrosses(t *testing.T) {
	checkFall(t, boardWith("r..", ".x.", "..."), 0, atBottom(3, 2))
	checkFall(t, boardWith("..l", ".x.", "..."), 2, atBottom(3, 0))
	checkFall(t, boardWith("...", ".x.", "..."), 1, atBottom(3, 1))
	checkFall(t, boardWith("r..", "...", ".x."), 0, atBottom(3, 1))
	checkFall(t, boardWith("..l", ".c.", ".x."), 2, atBottom(3, 1))
	checkFall(t, boardWith("x.", "x."), 0, atBottom(2, 0))
	checkFall(t, boardWith("F...", ".x..", "..x.", "...."), 0, atBottom(4, 3))
	checkFall(t, boardWith("...g", "..x.", ".x..", "...."), 3, atBottom(4, 0))
}

func TestFlipThatSeveralMarblesMeet(t *testing.T) {
	lines := []string{"r.l", ".f.", "..."}
	b := boardWith(lines...)
	checkFalls(t, b, []int{0, 2, 1, 1, 0}, []impl.Fall{atBottom(3, 0), atBottom(3, 2), atBottom(3, 0), atBottom(3, 2), atBottom(3, 0)}, []string{"r.l", ".F.", "..."})
	checkCounts(t, b, []int{0, 2, 1, 1, 0}, 3, 0, 2, 0, 0)
	// Each one alone finds the flip as it is.
	entries, ok := impl.ColumnsTo(b, 0)
	checkNumbers(t, "ColumnsTo", entries, ok, []int{0, 1, 2})
	entries, ok = impl.ColumnsTo(b, 2)
	checkNumbers(t, "ColumnsTo", entries, ok, nil)
	met, ok := impl.MetCells(b)
	checkNumbers(t, "MetCells", met, ok, []int{0, 1, 2, 4, 6})
}

func TestColumnsThatNoMarbleReaches(t *testing.T) {
	for column, want := range [][]int{{}, {}, {2, 3}, {0, 1}} {
		l, ok := impl.ColumnsTo(boardWith("r..l", ".r..", "..x."), column)
		checkNumbers(t, "ColumnsTo", l, ok, want)
	}
	for _, lines := range [][]string{{"lr"}, {"oo"}, {"..", "lr"}, {"fG", "oo"}} {
		for column := range 2 {
			l, ok := impl.ColumnsTo(boardWith(lines...), column)
			checkNumbers(t, "ColumnsTo", l, ok, nil)
		}
	}
}

func TestBoardsOfDifferentRows(t *testing.T) {
	checkSame(t, boardWith(".."), boardWith("..", ".."), false, true)
	checkFirst(t, boardWith(".."), boardWith("..", ".."), []int{1, 0}, 0)
	// Marbles that do not get to the bottom do not tell the rows.
	checkSame(t, boardWith("ol"), boardWith("ol", "or"), false, true)
	checkSame(t, boardWith("lor"), boardWith("lor", "..."), true, true)
	checkFirst(t, boardWith("lor"), boardWith("lor", "..."), []int{0, 1, 2, 1}, -1)
	checkFirst(t, boardWith("f"), boardWith("f", "o", "x"), []int{0, 0, 0}, -1)
	checkFirst(t, boardWith("f."), boardWith("f.", ".."), []int{0, 0, 0}, 1)
}

func TestBoardsOfDifferentColumns(t *testing.T) {
	for a := 1; a <= 9; a++ {
		for b := 1; b <= 9; b++ {
			first, second := boardWith(strings.Repeat("o", a)), boardWith(strings.Repeat("o", b))
			checkSame(t, first, second, a == b, a == b)
			checkFirst(t, first, second, []int{0}, -1)
			other := boardWith(strings.Repeat("l", b))
			checkSame(t, first, other, false, a == b)
			if a != b {
				checkFirst(t, first, other, []int{0}, -1)
			}
		}
	}
	// As many cells are not as many columns.
	checkSame(t, boardWith("ooo", "ooo"), boardWith("oo", "oo", "oo"), false, false)
}

func TestBoardsThatDifferLater(t *testing.T) {
	// Alone, each marble ends alike on both boards; the second one in the same column does not.
	flip, ramp := boardWith(".f.", "..."), boardWith(".l.", "...")
	checkSame(t, flip, ramp, true, true)
	checkFirst(t, flip, ramp, []int{1}, -1)
	checkFirst(t, flip, ramp, []int{0, 1, 2, 0, 1, 1}, 4)
	joined, apart := boardWith("gc.g", "...."), boardWith("g..g", "....")
	checkSame(t, joined, apart, true, true)
	joined, apart = boardWith(".gcg.", "....."), boardWith(".g.g.", ".....")
	checkSame(t, joined, apart, true, true)
	checkFirst(t, joined, apart, []int{0, 1, 3}, 2)
	checkFirst(t, joined, apart, []int{1, 1, 2, 4}, -1)
	checkSame(t, flip, boardWith(".F.", "..."), false, true)
}

func TestLargestBoardsOfMarbles(t *testing.T) {
	empty := slices.Repeat([]string{"........."}, 10)
	down, all, entries := []place{}, []int{}, []int{0, 1, 2, 3, 4, 5, 6, 7, 8}
	for row := range 10 {
		down = append(down, place{row, 8})
	}
	for i := range 90 {
		all = append(all, i)
	}
	checkMarble(t, empty, 8, knownWay{down, atBottom(10, 8), empty})
	met, ok := impl.MetCells(boardWith(empty...))
	checkNumbers(t, "MetCells", met, ok, all)
	checkCounts(t, boardWith(empty...), entries, 1, 1, 1, 1, 1, 1, 1, 1, 1, 0, 0)
	right := boardWith(slices.Repeat([]string{"rrrrrrrrr"}, 10)...)
	checkFall(t, right, 0, lostAt(8, 9))
	checkFall(t, right, 8, lostAt(0, 9))
	last := boardWith(slices.Concat(empty[:9], []string{"ooooooooo"})...)
	checkFall(t, last, 3, inStop(9, 3))
	checkCounts(t, last, entries, 0, 0, 0, 0, 0, 0, 0, 0, 0, 9, 0)
	flips := boardWith(slices.Repeat([]string{"fFfFfFfFf"}, 10)...)
	checkFall(t, flips, 1, atBottom(10, 1))
	turned, ok := impl.TurnedBy(flips, 1)
	checkNumbers(t, "TurnedBy", turned, ok, []int{1, 11, 19, 29, 37, 47, 55, 65, 73, 83})
	checkSame(t, flips, flips, true, true)
}

// checkNoFalls checks that nothing is returned for a board and a column; the board or the column is wrong.
func checkNoFalls(t *testing.T, b impl.Board, column int) {
	t.Helper()
	if end, ok := impl.FallOf(b, column); ok || end != (impl.Fall{}) {
		t.Errorf("FallOf(%v, %d) = %v, %v", b, column, end, ok)
	}
	after, ok := impl.BoardAfter(b, column)
	checkNoBoard(t, "BoardAfter", after, ok)
	if way, ok := impl.WayOf(b, column); ok || len(way) != 0 {
		t.Errorf("WayOf(%v, %d) = %v, %v", b, column, way, ok)
	}
	turned, ok := impl.TurnedBy(b, column)
	checkNoNumbers(t, "TurnedBy", turned, ok)
	entries, ok := impl.ColumnsTo(b, column)
	checkNoNumbers(t, "ColumnsTo", entries, ok)
}

// checkListRefused checks that nothing is returned for a board and a list of columns; the board or the list is wrong.
func checkListRefused(t *testing.T, b impl.Board, columns []int) {
	t.Helper()
	ends, after, ok := impl.FallsOf(b, columns)
	checkNoBoard(t, "FallsOf", after, ok)
	if len(ends) != 0 {
		t.Errorf("FallsOf(%v, %v) = %v", b, columns, ends)
	}
	counts, ok := impl.ArrivalCounts(b, columns)
	checkNoNumbers(t, "ArrivalCounts", counts, ok)
	checkFirst(t, b, b, columns, -1)
	if impl.IsBoard(b) {
		mirrored, _ := impl.MirrorBoard(b)
		checkFirst(t, b, mirrored, columns, -1)
	}
}

func TestColumnsOutsideOfBoards(t *testing.T) {
	columns := append([]int{10, 11, 89, 90, 1 << 62, -1 << 62, 1<<63/9 + 1, math.MaxInt / 9}, wildNumbers...)
	for _, lines := range [][]string{{"f"}, {"o"}, {"gcG.F.xlr"}, {"f", "x", "o"}, {"fG", ".."}, slices.Repeat([]string{"fF.xlr.gc"}, 10)} {
		b := boardWith(lines...)
		for _, column := range columns {
			if column >= 0 && column < b.Columns {
				continue
			}
			checkNoFalls(t, b, column)
			for _, n := range []int{1, 2, 5, 60} {
				for at := 0; at < n; at += 1 + n/4 {
					list := marblesFor(n, b.Columns, 7)
					list[at] = column
					checkListRefused(t, b, list)
				}
				list := marblesFor(n, b.Columns, 7)
				list[n-1] = column
				checkListRefused(t, b, list)
			}
		}
	}
}

// TestWrongColumnBehindTheFirstDifference has lists that would be answered before the wrong column is reached.
func TestWrongColumnBehindTheFirstDifference(t *testing.T) {
	left, right := boardWith("f."), boardWith("F.")
	checkFirst(t, left, right, []int{0, 1}, 0)
	for _, list := range [][]int{{0, 2}, {0, -1}, {0, 1, 1, math.MaxInt}, {0, math.MinInt}, slices.Repeat([]int{0}, 61)} {
		checkFirst(t, left, right, list, -1)
	}
}

func TestFallsOfInvalidBoards(t *testing.T) {
	for _, b := range invalidBoards() {
		for _, column := range []int{0, 1, -1, b.Columns - 1, math.MaxInt} {
			checkNoFalls(t, b, column)
			checkListRefused(t, b, []int{column})
		}
		checkListRefused(t, b, nil)
		met, ok := impl.MetCells(b)
		checkNoNumbers(t, "MetCells", met, ok)
		checkSame(t, b, b, false, false)
		for _, columns := range []int{1, 3, max(1, min(b.Columns, 9))} {
			valid := boardWith(strings.Repeat("f", columns))
			checkSame(t, b, valid, false, false)
			checkSame(t, valid, b, false, false)
			checkFirst(t, b, valid, []int{0}, -1)
			checkFirst(t, b, valid, nil, -1)
		}
	}
	missing, _ := withSpare(impl.Board{Rows: 2, Columns: 3, Cells: make([]impl.Cell, 5)})
	checkNoFalls(t, missing, 0)
	checkListRefused(t, missing, []int{0})
}

// fallResults is what all functions of the chapter return for two boards and a list.
type fallResults struct {
	ends   []impl.Fall
	boards []impl.Board
	lists  [][]int
}

// callFalls calls every function of the chapter.
func callFalls(a, b impl.Board, columns []int) fallResults {
	ends, afterAll, _ := impl.FallsOf(a, columns)
	counts, _ := impl.ArrivalCounts(a, columns)
	met, _ := impl.MetCells(a)
	impl.SameFalls(a, b)
	first, _ := impl.FirstDifferent(a, b, columns)
	r := fallResults{ends, []impl.Board{afterAll}, [][]int{counts, met, {first}}}
	for _, column := range []int{0, a.Columns / 2, a.Columns - 1, a.Columns} {
		end, _ := impl.FallOf(a, column)
		after, _ := impl.BoardAfter(a, column)
		way, _ := impl.WayOf(a, column)
		turned, _ := impl.TurnedBy(a, column)
		entries, _ := impl.ColumnsTo(a, column)
		r.boards = append(r.boards, after)
		r.lists = append(append(r.lists, turned, entries, []int{end.End, end.Row, end.Column}), way...)
	}
	return r
}

func sameResults(a, b fallResults) bool {
	return slices.Equal(a.ends, b.ends) && slices.EqualFunc(a.boards, b.boards, sameBoards) && slices.EqualFunc(a.lists, b.lists, slices.Equal)
}

// listWithSpare returns a list that has other numbers behind it, and all of these numbers.
func listWithSpare(l []int) ([]int, []int) {
	whole := slices.Concat(l, []int{0, -7, 77, math.MinInt, 1, 0})
	return whole[:len(l)], whole
}

func TestFallsLeaveTheirArguments(t *testing.T) {
	check := func(plain impl.Board, list []int) {
		a, cells := withSpare(plain)
		b, otherCells := withSpare(plain)
		columns, numbers := listWithSpare(list)
		cellsBefore, numbersBefore := slices.Clone(cells), slices.Clone(numbers)
		got := callFalls(a, b, columns)
		if !slices.Equal(cells, cellsBefore) || !slices.Equal(otherCells, cellsBefore) || !slices.Equal(numbers, numbersBefore) {
			t.Fatalf("%v or %v was changed, or what is behind it", plain, list)
		}
		if !sameResults(got, callFalls(copyBoard(plain), copyBoard(plain), slices.Clone(list))) {
			t.Errorf("other results for %v and %v with other memory behind them", plain, list)
		}
	}
	forFallSizes(func(b impl.Board, _ []string) {
		check(b, marblesFor(5, b.Columns, 3))
	})
	for _, b := range append(invalidBoards(), boardWith("fG", "cx")) {
		for _, list := range [][]int{nil, {0}, {0, -1, 0}, {1 << 40}, slices.Repeat([]int{0}, 61)} {
			check(b, list)
		}
	}
}

func TestFallResultsShareNothing(t *testing.T) {
	forFallSizes(func(plain impl.Board, lines []string) {
		b, cells := withSpare(plain)
		columns, numbers := listWithSpare(marblesFor(4, plain.Columns, 11))
		cellsBefore, numbersBefore := slices.Clone(cells), slices.Clone(numbers)
		got, want := callFalls(b, b, columns), callFalls(plain, plain, columns)
		for i, r := range got.boards {
			overwrite(r)
			for k := i + 1; k < len(got.boards); k++ {
				if !sameBoards(got.boards[k], want.boards[k]) {
					t.Fatalf("boards %d and %d of %q share cells", i, k, lines)
				}
			}
		}
		for i, l := range got.lists {
			clear(l[:cap(l)])
			for k := i + 1; k < len(got.lists); k++ {
				if !slices.Equal(got.lists[k], want.lists[k]) {
					t.Fatalf("lists %d and %d of %q share numbers", i, k, lines)
				}
			}
		}
		clear(got.ends[:cap(got.ends)])
		if !slices.Equal(cells, cellsBefore) || !slices.Equal(numbers, numbersBefore) || !sameResults(callFalls(b, b, columns), want) {
			t.Fatalf("a result shares memory with %q or its list", lines)
		}
	})
}
