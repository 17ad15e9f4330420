package tests

import (
	"math"
	"slices"
	"strconv"
	"strings"
	"testing"

	"loop.example/g00942/impl"
)

// seedsOfSizes is how many boards of each size are tried.
const seedsOfSizes = 4

// turnedBack has for each letter the one of the mirrored cell, written out again from the document's table.
var turnedBack = strings.NewReplacer("l", "r", "r", "l", "f", "F", "F", "f", "g", "G", "G", "g")

// boardOf returns a board and its lines, without newlines; other seeds give other boards.
func boardOf(rows, columns int, seed uint32) (impl.Board, []string) {
	cells, letters := rowOf(rows*columns, seed+uint32(rows*100+columns))
	lines := []string{}
	for row := range rows {
		lines = append(lines, letters[row*columns:(row+1)*columns])
	}
	return impl.Board{Rows: rows, Columns: columns, Cells: cells}, lines
}

func linesText(lines []string) string {
	return strings.Join(lines, "\n") + "\n"
}

func sameBoards(a, b impl.Board) bool {
	return a.Rows == b.Rows && a.Columns == b.Columns && slices.Equal(a.Cells, b.Cells)
}

func copyBoard(b impl.Board) impl.Board {
	return impl.Board{Rows: b.Rows, Columns: b.Columns, Cells: slices.Clone(b.Cells)}
}

// forBoards calls check for boards of all sizes.
func forBoards(check func(b impl.Board, lines []string)) {
	for rows := 1; rows <= 10; rows++ {
		for columns := 1; columns <= 9; columns++ {
			for seed := range uint32(seedsOfSizes) {
				b, lines := boardOf(rows, columns, seed*7919)
				check(b, lines)
			}
		}
	}
}

// boardWith returns the board of lines, without the program's own texts.
func boardWith(lines ...string) impl.Board {
	b := impl.Board{Rows: len(lines), Columns: len(lines[0])}
	for _, letter := range strings.Join(lines, "") {
		i := slices.IndexFunc(knownCells, func(k knownCell) bool { return k.letter == string(letter) })
		b.Cells = append(b.Cells, knownCells[i].cell)
	}
	return b
}

// checkBoard checks a board by its lines.
func checkBoard(t *testing.T, name string, b impl.Board, ok bool, lines []string) {
	t.Helper()
	if !ok || !sameBoards(b, boardWith(lines...)) {
		t.Errorf("%s = %v, %v; want the lines %q", name, b, ok, lines)
	}
}

func checkNoBoard(t *testing.T, name string, b impl.Board, ok bool) {
	t.Helper()
	if ok || b.Rows != 0 || b.Columns != 0 || len(b.Cells) != 0 {
		t.Errorf("%s = %v, %v; want no board", name, b, ok)
	}
}

func checkNumbers(t *testing.T, name string, l []int, ok bool, want []int) {
	t.Helper()
	if !ok || !slices.Equal(l, want) {
		t.Errorf("%s = %v, %v; want %v", name, l, ok, want)
	}
}

func checkNoNumbers(t *testing.T, name string, l []int, ok bool) {
	t.Helper()
	if ok || len(l) != 0 {
		t.Errorf("%s = %v, %v; want none", name, l, ok)
	}
}

func checkBoardReadBack(t *testing.T, b impl.Board, lines []string) {
	t.Helper()
	if !impl.IsBoard(b) {
		t.Errorf("IsBoard(%v) = false", b)
	}
	text := linesText(lines)
	if s, ok := impl.BoardText(b); !ok || s != text {
		t.Errorf("BoardText(%v) = %q, %v; want %q", b, s, ok, text)
	}
	p, ok := impl.ParseBoard(text)
	checkBoard(t, "ParseBoard", p, ok, lines)
}

func TestBoardLimits(t *testing.T) {
	if impl.MaxRows != 10 || impl.MaxColumns != 9 {
		t.Error("limits", impl.MaxRows, impl.MaxColumns)
	}
}

func TestBoardsAreReadBack(t *testing.T) {
	forBoards(func(b impl.Board, lines []string) { checkBoardReadBack(t, b, lines) })
}

func TestSmallBoardsAreReadBack(t *testing.T) {
	for _, a := range knownCells {
		checkBoardReadBack(t, impl.Board{Rows: 1, Columns: 1, Cells: []impl.Cell{a.cell}}, []string{a.letter})
		for _, b := range knownCells {
			two := []impl.Cell{a.cell, b.cell}
			checkBoardReadBack(t, impl.Board{Rows: 1, Columns: 2, Cells: two}, []string{a.letter + b.letter})
			checkBoardReadBack(t, impl.Board{Rows: 2, Columns: 1, Cells: two}, []string{a.letter, b.letter})
		}
	}
}

func TestSizesOfBoards(t *testing.T) {
	sizes := append([]int{10, 11, 12, 90, 91, math.MaxInt / 9, math.MinInt / 9, 1 << 62, 1 << 63 / 10}, wildNumbers...)
	for _, rows := range sizes {
		for _, columns := range sizes {
			counts := []int{0, 1, 9, 10, 89, 90, 91}
			// The product that wraps round must not be taken for the number of cells either.
			if product := rows * columns; product >= 0 && product <= 1000 {
				counts = append(counts, product, product+1, max(product-1, 0))
			}
			for _, n := range counts {
				valid := rows >= 1 && rows <= 10 && columns >= 1 && columns <= 9 && n == rows*columns
				b := impl.Board{Rows: rows, Columns: columns, Cells: make([]impl.Cell, n)}
				if got := impl.IsBoard(b); got != valid {
					t.Errorf("IsBoard = %v for %d rows, %d columns and %d cells", got, rows, columns, n)
				}
			}
		}
	}
}

func TestLargestBoards(t *testing.T) {
	b, lines := boardOf(10, 9, 5)
	checkBoardReadBack(t, b, lines)
	for _, size := range [][2]int{{11, 1}, {11, 8}, {11, 9}, {1, 10}, {9, 10}, {10, 10}, {11, 10}} {
		large, lines := boardOf(size[0], size[1], 5)
		checkRefused(t, large)
		p, ok := impl.ParseBoard(linesText(lines))
		checkNoBoard(t, "ParseBoard of "+linesText(lines), p, ok)
	}
}

func TestCellsOfBoards(t *testing.T) {
	forBoards(func(b impl.Board, lines []string) {
		for row, line := range lines {
			for column := range line {
				c, ok := impl.CellAt(b, row, column)
				if letter, fine := impl.CellLetter(c); !ok || !fine || letter != line[column:column+1] {
					t.Errorf("CellAt(%q, %d, %d) = %v, %v", lines, row, column, c, ok)
				}
			}
		}
	})
}

func TestPutCells(t *testing.T) {
	forBoards(func(b impl.Board, lines []string) {
		before := copyBoard(b)
		for row, line := range lines {
			for column := range line {
				k := knownCells[(row*7+column*3+len(lines))%len(knownCells)]
				want := slices.Clone(lines)
				want[row] = line[:column] + k.letter + line[column+1:]
				p, ok := impl.PutCell(b, row, column, k.cell)
				checkBoard(t, "PutCell", p, ok, want)
				if c, ok := impl.CellAt(p, row, column); !ok || c != k.cell {
					t.Errorf("CellAt = %v, %v; %v was put there", c, ok, k.cell)
				}
			}
		}
		if !sameBoards(b, before) {
			t.Errorf("%v has become %v", before, b)
		}
	})
}

func TestPutEachCell(t *testing.T) {
	for _, old := range knownCells {
		for _, k := range knownCells {
			p, ok := impl.PutCell(impl.Board{Rows: 1, Columns: 1, Cells: []impl.Cell{old.cell}}, 0, 0, k.cell)
			checkBoard(t, "PutCell", p, ok, []string{k.letter})
		}
	}
}

func TestPlacesOutsideOfBoards(t *testing.T) {
	places := append([]int{10, 11, 89, 90, 1 << 62, -1 << 62}, wildNumbers...)
	for _, size := range [][2]int{{1, 1}, {1, 9}, {10, 1}, {3, 5}, {10, 9}} {
		b, lines := boardOf(size[0], size[1], 1)
		for _, row := range places {
			for _, column := range places {
				inside := row >= 0 && row < size[0] && column >= 0 && column < size[1]
				c, ok := impl.CellAt(b, row, column)
				if ok != inside || !inside && c != (impl.Cell{}) {
					t.Errorf("CellAt(%q, %d, %d) = %v, %v", lines, row, column, c, ok)
				}
				p, ok := impl.PutCell(b, row, column, impl.Cell{Kind: impl.PtRight})
				if inside && !ok {
					t.Errorf("PutCell(%q, %d, %d) fails", lines, row, column)
				}
				if !inside {
					checkNoBoard(t, "PutCell outside", p, ok)
				}
			}
		}
	}
}

func TestPutInvalidCells(t *testing.T) {
	b, _ := boardOf(2, 3, 1)
	for _, kind := range wildNumbers {
		for _, state := range wildNumbers {
			if x := (impl.Cell{Kind: kind, State: state}); !isKnown(x) {
				p, ok := impl.PutCell(b, 1, 2, x)
				checkNoBoard(t, "PutCell of an invalid cell", p, ok)
			}
		}
	}
}

func TestMirroredBoards(t *testing.T) {
	forBoards(func(b impl.Board, lines []string) {
		want := []string{}
		for _, line := range lines {
			letters := strings.Split(turnedBack.Replace(line), "")
			slices.Reverse(letters)
			want = append(want, strings.Join(letters, ""))
		}
		m, ok := impl.MirrorBoard(b)
		checkBoard(t, "MirrorBoard", m, ok, want)
		back, ok := impl.MirrorBoard(m)
		checkBoard(t, "mirrored twice", back, ok, lines)
	})
}

func TestCountedParts(t *testing.T) {
	letters := []string{".", "l", "r", "fF", "x", "o", "gG", "c"}
	forBoards(func(b impl.Board, lines []string) {
		want := make([]int, 8)
		for _, letter := range strings.Join(lines, "") {
			want[slices.IndexFunc(letters, func(s string) bool { return strings.ContainsRune(s, letter) })]++
		}
		counts, ok := impl.CountParts(b)
		checkNumbers(t, "CountParts", counts, ok, want)
	})
}

func TestTurningCells(t *testing.T) {
	forBoards(func(b impl.Board, lines []string) {
		want := []int{}
		for i, letter := range strings.Join(lines, "") {
			if strings.ContainsRune("fFgG", letter) {
				want = append(want, i)
			}
		}
		indices, ok := impl.TurningCells(b)
		checkNumbers(t, "TurningCells", indices, ok, want)
	})
	for _, k := range knownCells {
		want := []int{}
		if strings.Contains("fFgG", k.letter) {
			want = append(want, 0)
		}
		indices, ok := impl.TurningCells(impl.Board{Rows: 1, Columns: 1, Cells: []impl.Cell{k.cell}})
		checkNumbers(t, "TurningCells of "+k.letter, indices, ok, want)
	}
}

func TestDifferentCells(t *testing.T) {
	forBoards(func(a impl.Board, lines []string) {
		same, ok := impl.DifferentCells(a, copyBoard(a))
		checkNumbers(t, "DifferentCells of the same", same, ok, nil)
		b, others := boardOf(a.Rows, a.Columns, 4711)
		want := []int{}
		left, right := strings.Join(lines, ""), strings.Join(others, "")
		for i := range left {
			if left[i] != right[i] {
				want = append(want, i)
			}
		}
		indices, ok := impl.DifferentCells(a, b)
		checkNumbers(t, "DifferentCells", indices, ok, want)
	})
	for _, a := range knownCells {
		for _, b := range knownCells {
			want := []int{}
			if a.letter != b.letter {
				want = append(want, 0)
			}
			indices, ok := impl.DifferentCells(impl.Board{Rows: 1, Columns: 1, Cells: []impl.Cell{a.cell}}, impl.Board{Rows: 1, Columns: 1, Cells: []impl.Cell{b.cell}})
			checkNumbers(t, "DifferentCells of "+a.letter+b.letter, indices, ok, want)
		}
	}
}

func TestPutCellIsTheDifferentOne(t *testing.T) {
	forBoards(func(b impl.Board, lines []string) {
		row, column := b.Rows/2, b.Columns/3
		for _, k := range knownCells {
			want := []int{}
			if lines[row][column:column+1] != k.letter {
				want = append(want, row*b.Columns+column)
			}
			p, _ := impl.PutCell(b, row, column, k.cell)
			indices, ok := impl.DifferentCells(b, p)
			checkNumbers(t, "DifferentCells after PutCell", indices, ok, want)
		}
	})
}

// forPairs calls check for pairs of boards of all sizes.
func forPairs(check func(a, b impl.Board, top, other []string)) {
	forBoards(func(a impl.Board, top []string) {
		for rows := 1; rows <= 10; rows++ {
			for columns := 1; columns <= 9; columns++ {
				b, other := boardOf(rows, columns, 99)
				check(a, b, top, other)
			}
		}
	})
}

func TestBoardsOfDifferentSizes(t *testing.T) {
	forPairs(func(a, b impl.Board, _, _ []string) {
		if a.Rows != b.Rows || a.Columns != b.Columns {
			indices, ok := impl.DifferentCells(a, b)
			checkNoNumbers(t, "DifferentCells of different sizes", indices, ok)
		}
	})
}

func TestStackedBoardsAreCutAgain(t *testing.T) {
	forPairs(func(a, b impl.Board, top, other []string) {
		stack, ok := impl.StackBoards(a, b)
		if a.Columns != b.Columns || a.Rows+b.Rows > 10 {
			checkNoBoard(t, "StackBoards", stack, ok)
			return
		}
		checkBoard(t, "StackBoards", stack, ok, slices.Concat(top, other))
		first, ok := impl.CutRows(stack, 0, a.Rows)
		checkBoard(t, "the upper part", first, ok, top)
		second, ok := impl.CutRows(stack, a.Rows, stack.Rows)
		checkBoard(t, "the lower part", second, ok, other)
	})
}

func TestBoardsBesideEachOther(t *testing.T) {
	forPairs(func(a, b impl.Board, left, right []string) {
		both, ok := impl.BesideBoards(a, b)
		if a.Rows != b.Rows || a.Columns+b.Columns > 9 {
			checkNoBoard(t, "BesideBoards", both, ok)
			return
		}
		want := []string{}
		for row := range left {
			want = append(want, left[row]+right[row])
		}
		checkBoard(t, "BesideBoards", both, ok, want)
	})
}

func TestBoardsWithThemselves(t *testing.T) {
	b, lines := boardOf(5, 4, 8)
	stack, ok := impl.StackBoards(b, b)
	checkBoard(t, "StackBoards", stack, ok, slices.Concat(lines, lines))
	both, ok := impl.BesideBoards(b, b)
	checkBoard(t, "BesideBoards", both, ok, []string{lines[0] + lines[0], lines[1] + lines[1], lines[2] + lines[2], lines[3] + lines[3], lines[4] + lines[4]})
}

func TestCutRows(t *testing.T) {
	ends := append([]int{10, 11, 12}, wildNumbers...)
	forBoards(func(b impl.Board, lines []string) {
		for _, from := range ends {
			for _, to := range ends {
				cut, ok := impl.CutRows(b, from, to)
				if 0 <= from && from < to && to <= b.Rows {
					checkBoard(t, "CutRows", cut, ok, lines[from:to])
				} else {
					checkNoBoard(t, "CutRows", cut, ok)
				}
			}
		}
	})
}

func checkNoText(t *testing.T, s string) {
	t.Helper()
	b, ok := impl.ParseBoard(s)
	checkNoBoard(t, "ParseBoard of "+strconv.Quote(s), b, ok)
}

func TestTextsOfNoBoard(t *testing.T) {
	wrong := []string{
		"", "\n", "\n\n", ".", "..", "lF\nx.", "\nlF", "\nlF\n", "lF\n\n", "lF\n\nx.\n", "lF\nx\n", "l\nx.\n", "lF\nx.r\n", "lFx\n.\n",
		"lF\nx.\n\n", "lF\nx.\nr", "lF\r\nx.\r\n", "lF\rx.\r", "lF\n x\n", "lF \n", " lF\n", "lF\nx.\x00", "lF\nx.\n\x00",
		"lF.x..", "l\nF\nx\n.", "....\n.\n", ".\n....\n", "..\n.\n...\n",
		strings.Repeat(".", 99) + "\n", strings.Repeat("\n", 100), strings.Repeat(".", 100), strings.Repeat("\n", 100000), strings.Repeat(".", 100000),
		strings.Repeat("\n", 99) + ".", strings.Repeat(".\n", 100000),
	}
	for _, s := range wrong {
		checkNoText(t, s)
	}
}

// isBoardText tells by splitting it whether a text is a board's.
func isBoardText(s string) bool {
	text, ended := strings.CutSuffix(s, "\n")
	lines := strings.Split(text, "\n")
	wrongLine := func(line string) bool {
		return line == "" || len(line) > 9 || len(line) != len(lines[0]) || strings.Trim(line, ".lrfFxogGc") != ""
	}
	return ended && len(lines) <= 10 && !slices.ContainsFunc(lines, wrongLine)
}

// checkText checks what is read from a text, by the lines into which it is split, and reports whether it is a board's.
func checkText(t *testing.T, s string) bool {
	t.Helper()
	if !isBoardText(s) {
		checkNoText(t, s)
		return false
	}
	b, ok := impl.ParseBoard(s)
	checkBoard(t, "ParseBoard", b, ok, strings.Split(strings.TrimSuffix(s, "\n"), "\n"))
	return true
}

func TestBoardTextsWithWrongLetters(t *testing.T) {
	for _, s := range wrongLetters() {
		checkText(t, s)
		checkText(t, s+"\n")
		checkText(t, s+"F\nx.\n")
		checkText(t, "lF"+s+"x.\n")
		checkText(t, "lF\nx"+s+"\n")
		checkText(t, "lF\nx."+s)
		// All lines have the same number of bytes here, so that the letters alone are wrong.
		line := "l" + strings.ReplaceAll(s, "\n", "!") + "."
		checkNoText(t, line+"\n"+strings.Repeat(".", len(line))+"\n")
		checkNoText(t, strings.Repeat(".", len(line))+"\n"+line+"\n")
	}
}

// TestChangedBoardTexts puts each byte in place of each one of a text, and leaves bytes out.
func TestChangedBoardTexts(t *testing.T) {
	for _, text := range []string{"lF.\nxog\n", "F\n", "Gc.l\n", "r\nx\n.\n"} {
		boards := 0
		for i := range len(text) {
			for b := range 256 {
				if checkText(t, text[:i]+string([]byte{byte(b)})+text[i+1:]) {
					boards++
				}
			}
			checkText(t, text[:i])
			checkText(t, text[i+1:])
			checkText(t, text[:i]+text[i+1:])
		}
		if boards < 10*(len(text)-strings.Count(text, "\n")) {
			t.Errorf("only %d of the texts like %q are boards", boards, text)
		}
	}
}

// TestShortTexts tries all texts of a few letters, lines of different lengths among them.
func TestShortTexts(t *testing.T) {
	texts := []string{""}
	for range 8 {
		longer := []string{}
		for _, s := range texts {
			checkText(t, s)
			for _, letter := range []string{".", "F", "\n", "?"} {
				longer = append(longer, s+letter)
			}
		}
		texts = longer
	}
}

// invalidBoards returns boards whose size, number of cells or cells are wrong.
func invalidBoards() []impl.Board {
	l := []impl.Board{{}, {Rows: 1, Columns: 1}, {Rows: 2, Columns: 3}, {Cells: make([]impl.Cell, 1)}, {Rows: 1, Cells: make([]impl.Cell, 1)}, {Columns: 1, Cells: make([]impl.Cell, 1)}}
	for _, size := range [][3]int{{-1, -1, 1}, {-2, -3, 6}, {-1, 5, 5}, {5, -1, 5}, {2, 3, 5}, {2, 3, 7}, {11, 1, 11}, {1, 10, 10}, {10, 10, 100}, {11, 9, 99}, {9, 10, 90}, {90, 1, 90}, {1, 90, 90}, {1 << 32, 1 << 32, 0}, {math.MaxInt, math.MaxInt, 1}, {math.MinInt, math.MinInt, 0}, {math.MinInt, 2, 0}, {math.MaxInt, 1, 90}, {1, math.MinInt, 1}} {
		l = append(l, impl.Board{Rows: size[0], Columns: size[1], Cells: make([]impl.Cell, size[2])})
	}
	wrongCells := []impl.Cell{{Kind: 8}, {Kind: -1}, {Kind: 0, State: 1}, {Kind: 3, State: 2}, {Kind: 3, State: -1}, {Kind: 7, State: 1}, {Kind: math.MaxInt, State: math.MaxInt}, {Kind: math.MinInt, State: math.MinInt}}
	for _, c := range wrongCells {
		for _, place := range []int{0, 2, 5} {
			b, _ := boardOf(2, 3, 17)
			b.Cells[place] = c
			l = append(l, b)
		}
		l = append(l, impl.Board{Rows: 1, Columns: 1, Cells: []impl.Cell{c}})
	}
	return l
}

// checkRefused checks that no function takes a board, whatever else it is given.
func checkRefused(t *testing.T, b impl.Board) {
	t.Helper()
	if impl.IsBoard(b) {
		t.Errorf("IsBoard(%v) = true", b)
	}
	c, ok := impl.CellAt(b, 0, 0)
	if ok || c != (impl.Cell{}) {
		t.Errorf("CellAt(%v) = %v, %v", b, c, ok)
	}
	p, ok := impl.PutCell(b, 0, 0, impl.Cell{})
	checkNoBoard(t, "PutCell", p, ok)
	m, ok := impl.MirrorBoard(b)
	checkNoBoard(t, "MirrorBoard", m, ok)
	counts, ok := impl.CountParts(b)
	checkNoNumbers(t, "CountParts", counts, ok)
	turning, ok := impl.TurningCells(b)
	checkNoNumbers(t, "TurningCells", turning, ok)
	cut, ok := impl.CutRows(b, 0, 1)
	checkNoBoard(t, "CutRows", cut, ok)
	if s, ok := impl.BoardText(b); ok || s != "" {
		t.Errorf("BoardText(%v) = %q, %v", b, s, ok)
	}
	checkPairRefused(t, b, copyBoard(b))
	for _, size := range [][2]int{{1, 1}, {2, 3}, {1, 3}, {2, 1}, {max(1, min(b.Rows, 10)), max(1, min(b.Columns, 9))}} {
		valid, _ := boardOf(size[0], size[1], 3)
		checkPairRefused(t, b, valid)
		checkPairRefused(t, valid, b)
	}
}

func checkPairRefused(t *testing.T, a, b impl.Board) {
	t.Helper()
	different, ok := impl.DifferentCells(a, b)
	checkNoNumbers(t, "DifferentCells", different, ok)
	stack, ok := impl.StackBoards(a, b)
	checkNoBoard(t, "StackBoards", stack, ok)
	both, ok := impl.BesideBoards(a, b)
	checkNoBoard(t, "BesideBoards", both, ok)
}

func TestInvalidBoards(t *testing.T) {
	for _, b := range invalidBoards() {
		checkRefused(t, b)
	}
}

// callAll calls every function of the chapter with two boards, and returns the boards and the numbers that came back.
func callAll(a, b impl.Board) ([]impl.Board, [][]int) {
	impl.IsBoard(a)
	impl.CellAt(a, 0, 0)
	put, _ := impl.PutCell(a, 0, 0, impl.Cell{Kind: impl.PtCross})
	mirrored, _ := impl.MirrorBoard(a)
	counts, _ := impl.CountParts(a)
	turning, _ := impl.TurningCells(a)
	different, _ := impl.DifferentCells(a, b)
	stack, _ := impl.StackBoards(a, b)
	both, _ := impl.BesideBoards(a, b)
	first, _ := impl.CutRows(a, 0, 1)
	last, _ := impl.CutRows(a, a.Rows-1, a.Rows)
	all, _ := impl.CutRows(a, 0, a.Rows)
	impl.BoardText(a)
	return []impl.Board{put, mirrored, stack, both, first, last, all}, [][]int{counts, turning, different}
}

// withSpare returns a board whose cells have others behind them, and all of these cells.
func withSpare(b impl.Board) (impl.Board, []impl.Cell) {
	behind := []impl.Cell{{Kind: impl.PtStop}, {Kind: 77, State: -7}, {Kind: impl.PtGear, State: 1}}
	n := len(b.Cells)
	whole := slices.Concat(b.Cells, slices.Repeat(behind, 40))
	b.Cells = whole[:n]
	return b, whole
}

func TestBoardsStayAsTheyAre(t *testing.T) {
	given := append(invalidBoards(), impl.Board{})
	forBoards(func(b impl.Board, _ []string) { given = append(given, b) })
	for _, plain := range given {
		a, whole := withSpare(plain)
		b, other := withSpare(plain)
		before, otherBefore := slices.Clone(whole), slices.Clone(other)
		callAll(a, b)
		if !slices.Equal(whole, before) || !slices.Equal(other, otherBefore) {
			t.Fatalf("%v was changed, or what is behind its cells", plain)
		}
	}
}

func TestSpareCapacityOfBoards(t *testing.T) {
	forBoards(func(b impl.Board, lines []string) {
		spare, _ := withSpare(b)
		checkBoardReadBack(t, spare, lines)
		boards, numbers := callAll(spare, spare)
		wantBoards, wantNumbers := callAll(b, b)
		if !slices.EqualFunc(boards, wantBoards, sameBoards) || !slices.EqualFunc(numbers, wantNumbers, slices.Equal) {
			t.Errorf("other results for %q with cells behind it", lines)
		}
	})
	missing, _ := withSpare(impl.Board{Rows: 2, Columns: 3, Cells: make([]impl.Cell, 5)})
	checkRefused(t, missing)
}

// overwrite changes all cells of a board, those in its spare capacity too.
func overwrite(b impl.Board) {
	for i := range b.Cells[:cap(b.Cells)] {
		b.Cells[:cap(b.Cells)][i] = impl.Cell{Kind: -5, State: -5}
	}
}

func TestNewBoardsShareNothing(t *testing.T) {
	forBoards(func(plain impl.Board, lines []string) {
		b, whole := withSpare(plain)
		before := slices.Clone(whole)
		boards, numbers := callAll(b, b)
		wantBoards, wantNumbers := callAll(copyBoard(plain), copyBoard(plain))
		for i, r := range boards {
			overwrite(r)
			for j := i + 1; j < len(boards); j++ {
				if !sameBoards(boards[j], wantBoards[j]) {
					t.Fatalf("results %d and %d of %q share cells", i, j, lines)
				}
			}
		}
		for i, l := range numbers {
			clear(l[:cap(l)])
			for j := i + 1; j < len(numbers); j++ {
				if !slices.Equal(numbers[j], wantNumbers[j]) {
					t.Fatalf("lists %d and %d of %q share numbers", i, j, lines)
				}
			}
		}
		if !slices.Equal(whole, before) {
			t.Fatalf("a result shares cells with %q", lines)
		}
		again, numbersAgain := callAll(b, b)
		if !slices.EqualFunc(again, wantBoards, sameBoards) || !slices.EqualFunc(numbersAgain, wantNumbers, slices.Equal) {
			t.Fatalf("other results for %q after the first ones were changed", lines)
		}
	})
}

func TestReadBoardsShareNothing(t *testing.T) {
	first, _ := impl.ParseBoard("lF\nx.\n")
	overwrite(first)
	second, ok := impl.ParseBoard("lF\nx.\n")
	checkBoard(t, "read again", second, ok, []string{"lF", "x."})
}
