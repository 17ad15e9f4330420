package tests

import (
	"math"
	"slices"
	"strings"
	"testing"

	"loop.example/g00942/impl"
)

// knownCell is a row of the document's table, written out again so that the program is not tested against itself.
type knownCell struct {
	cell   impl.Cell
	letter string
	mirror impl.Cell
	ways   [3]int // from the left, from above, from the right
}

const heldMarble = 9 // stands in ways for a stop

var knownCells = []knownCell{
	{cell: impl.Cell{Kind: 0}, letter: ".", mirror: impl.Cell{Kind: 0}, ways: [3]int{0, 0, 0}},
	{cell: impl.Cell{Kind: 1}, letter: "l", mirror: impl.Cell{Kind: 2}, ways: [3]int{-1, -1, -1}},
	{cell: impl.Cell{Kind: 2}, letter: "r", mirror: impl.Cell{Kind: 1}, ways: [3]int{1, 1, 1}},
	{cell: impl.Cell{Kind: 3}, letter: "f", mirror: impl.Cell{Kind: 3, State: 1}, ways: [3]int{-1, -1, -1}},
	{cell: impl.Cell{Kind: 3, State: 1}, letter: "F", mirror: impl.Cell{Kind: 3}, ways: [3]int{1, 1, 1}},
	{cell: impl.Cell{Kind: 4}, letter: "x", mirror: impl.Cell{Kind: 4}, ways: [3]int{1, 0, -1}},
	{cell: impl.Cell{Kind: 5}, letter: "o", mirror: impl.Cell{Kind: 5}, ways: [3]int{heldMarble, heldMarble, heldMarble}},
	{cell: impl.Cell{Kind: 6}, letter: "g", mirror: impl.Cell{Kind: 6, State: 1}, ways: [3]int{-1, -1, -1}},
	{cell: impl.Cell{Kind: 6, State: 1}, letter: "G", mirror: impl.Cell{Kind: 6}, ways: [3]int{1, 1, 1}},
	{cell: impl.Cell{Kind: 7}, letter: "c", mirror: impl.Cell{Kind: 7}, ways: [3]int{0, 0, 0}},
}

var kindsByName = []string{"empty", "left", "right", "flip", "cross", "stop", "gear", "cog"}

var wildNumbers = []int{math.MinInt, math.MinInt + 1, -1 << 32, -1000, -3, -2, -1, 0, 1, 2, 3, 4, 5, 6, 7, 8, 9, 255, 256, 1000, 1 << 32, math.MaxInt - 1, math.MaxInt}

func isKnown(c impl.Cell) bool {
	return slices.ContainsFunc(knownCells, func(k knownCell) bool { return k.cell == c })
}

// rowOf returns n cells that follow no short pattern, and their letters; other seeds give other rows.
func rowOf(n int, seed uint32) ([]impl.Cell, string) {
	cells := []impl.Cell{}
	text := ""
	for range n {
		seed = seed*1664525 + 1013904223
		k := knownCells[(seed>>16)%uint32(len(knownCells))]
		cells = append(cells, k.cell)
		text += k.letter
	}
	return cells, text
}

func checkRow(t *testing.T, cells []impl.Cell, text string) {
	t.Helper()
	if s, ok := impl.CellsText(cells); !ok || s != text {
		t.Errorf("CellsText(%v) = %q, %v; want %q", cells, s, ok, text)
	}
	if l, ok := impl.ReadCells(text); !ok || !slices.Equal(l, cells) {
		t.Errorf("ReadCells(%q) = %v, %v; want %v", text, l, ok, cells)
	}
}

func TestKindConstants(t *testing.T) {
	kinds := []int{impl.PtEmpty, impl.PtLeft, impl.PtRight, impl.PtFlip, impl.PtCross, impl.PtStop, impl.PtGear, impl.PtCog}
	if !slices.Equal(kinds, []int{0, 1, 2, 3, 4, 5, 6, 7}) {
		t.Error("kinds", kinds)
	}
}

func TestLettersAreReadBack(t *testing.T) {
	for _, k := range knownCells {
		if !impl.IsCell(k.cell) {
			t.Errorf("IsCell(%v) = false", k.cell)
		}
		if s, ok := impl.CellLetter(k.cell); !ok || s != k.letter {
			t.Errorf("CellLetter(%v) = %q, %v; want %q", k.cell, s, ok, k.letter)
		}
		if c, ok := impl.ReadCell(k.letter); !ok || c != k.cell {
			t.Errorf("ReadCell(%q) = %v, %v; want %v", k.letter, c, ok, k.cell)
		}
	}
}

func TestValidCells(t *testing.T) {
	valid := 0
	for _, kind := range wildNumbers {
		for _, state := range wildNumbers {
			c := impl.Cell{Kind: kind, State: state}
			known := isKnown(c)
			if known {
				valid++
			}
			if got := impl.IsCell(c); got != known {
				t.Errorf("IsCell(%v) = %v", c, got)
			}
			turning := known && (kind == impl.PtFlip || kind == impl.PtGear)
			if got := impl.IsTurning(c); got != turning {
				t.Errorf("IsTurning(%v) = %v", c, got)
			}
		}
	}
	if valid != len(knownCells) {
		t.Errorf("%d of %d valid cells were met", valid, len(knownCells))
	}
}

func TestKindNames(t *testing.T) {
	for _, kind := range wildNumbers {
		s, ok := impl.KindName(kind)
		valid := kind >= 0 && kind < len(kindsByName)
		if ok != valid {
			t.Errorf("KindName(%d) = %q, %v", kind, s, ok)
		}
		if valid && s != kindsByName[kind] || !valid && s != "" {
			t.Errorf("KindName(%d) = %q", kind, s)
		}
	}
}

func TestMirrorAndTurn(t *testing.T) {
	for _, k := range knownCells {
		m, ok := impl.MirrorCell(k.cell)
		if !ok || m != k.mirror {
			t.Errorf("MirrorCell(%v) = %v, %v; want %v", k.cell, m, ok, k.mirror)
		}
		if back, ok := impl.MirrorCell(m); !ok || back != k.cell {
			t.Errorf("%v mirrored twice is %v, %v", k.cell, back, ok)
		}
		if !impl.IsTurning(k.cell) {
			if c, ok := impl.TurnCell(k.cell); ok || c != (impl.Cell{}) {
				t.Errorf("TurnCell(%v) = %v, %v", k.cell, c, ok)
			}
			continue
		}
		turned, ok := impl.TurnCell(k.cell)
		if !ok || turned != (impl.Cell{Kind: k.cell.Kind, State: 1 - k.cell.State}) {
			t.Errorf("TurnCell(%v) = %v, %v", k.cell, turned, ok)
		}
		if back, ok := impl.TurnCell(turned); !ok || back != k.cell {
			t.Errorf("%v turned twice is %v, %v", k.cell, back, ok)
		}
	}
}

func TestWaysOfMarbles(t *testing.T) {
	for _, k := range knownCells {
		for i, want := range k.ways {
			way, ok := impl.GoesTo(k.cell, i-1)
			if want == heldMarble {
				if ok || way != 0 {
					t.Errorf("GoesTo(%v, %d) = %d, %v of a stop", k.cell, i-1, way, ok)
				}
			} else if !ok || way != want {
				t.Errorf("GoesTo(%v, %d) = %d, %v; want %d", k.cell, i-1, way, ok, want)
			}
		}
	}
}

func TestOtherWayThroughMirroredCell(t *testing.T) {
	for _, k := range knownCells {
		m, _ := impl.MirrorCell(k.cell)
		for side := -1; side <= 1; side++ {
			way, ok := impl.GoesTo(k.cell, side)
			other, otherOK := impl.GoesTo(m, -side)
			if ok != otherOK || other != -way {
				t.Errorf("%v from %d: %d, %v, but mirrored %d, %v", k.cell, side, way, ok, other, otherOK)
			}
		}
	}
}

func TestShortRowsAreReadBack(t *testing.T) {
	type row struct {
		cells []impl.Cell
		text  string
	}
	rows := []row{{}}
	for range 4 {
		longer := []row{}
		for _, r := range rows {
			checkRow(t, r.cells, r.text)
			for _, k := range knownCells {
				longer = append(longer, row{append(slices.Clone(r.cells), k.cell), r.text + k.letter})
			}
		}
		rows = longer
	}
}

func TestLongRowsAreReadBack(t *testing.T) {
	for n := range 91 {
		for seed := range uint32(20) {
			cells, text := rowOf(n, seed)
			checkRow(t, cells, text)
		}
	}
}

func TestRowWithoutCells(t *testing.T) {
	for _, none := range [][]impl.Cell{nil, {}} {
		if s, ok := impl.CellsText(none); !ok || s != "" {
			t.Errorf("CellsText = %q, %v", s, ok)
		}
		if l, ok := impl.CountKinds(none); !ok || !slices.Equal(l, make([]int, 8)) {
			t.Errorf("CountKinds = %v, %v", l, ok)
		}
	}
	if l, ok := impl.ReadCells(""); !ok || len(l) != 0 {
		t.Errorf("ReadCells = %v, %v", l, ok)
	}
}

func TestLimitOfRows(t *testing.T) {
	for _, k := range knownCells {
		most := slices.Repeat([]impl.Cell{k.cell}, 90)
		text := strings.Repeat(k.letter, 90)
		checkRow(t, most, text)
		counts := make([]int, 8)
		counts[k.cell.Kind] = 90
		if l, ok := impl.CountKinds(most); !ok || !slices.Equal(l, counts) {
			t.Errorf("CountKinds of 90 %q = %v, %v", k.letter, l, ok)
		}
		checkRowFails(t, append(most, k.cell))
		checkTextFails(t, text+k.letter)
	}
	checkTextFails(t, strings.Repeat(".", 100000))
	checkRowFails(t, make([]impl.Cell, 100000))
}

func checkRowFails(t *testing.T, cells []impl.Cell) {
	t.Helper()
	if s, ok := impl.CellsText(cells); ok || s != "" {
		t.Errorf("CellsText of %d cells = %q, %v", len(cells), s, ok)
	}
	if l, ok := impl.CountKinds(cells); ok || len(l) != 0 {
		t.Errorf("CountKinds of %d cells = %v, %v", len(cells), l, ok)
	}
}

func checkTextFails(t *testing.T, text string) {
	t.Helper()
	if l, ok := impl.ReadCells(text); ok || len(l) != 0 {
		t.Errorf("ReadCells(%q) = %v, %v", text, l, ok)
	}
}

func TestCountKinds(t *testing.T) {
	l, ok := impl.CountKinds([]impl.Cell{{Kind: 3}, {Kind: 3, State: 1}, {Kind: 0}, {Kind: 7}, {Kind: 6, State: 1}, {Kind: 5}, {Kind: 3}, {Kind: 4}, {Kind: 6}, {Kind: 2}, {Kind: 5}})
	if !ok || !slices.Equal(l, []int{1, 0, 1, 3, 1, 2, 2, 1}) {
		t.Errorf("CountKinds = %v, %v", l, ok)
	}
	for n := range 91 {
		cells, _ := rowOf(n, uint32(n))
		want := make([]int, 8)
		for _, c := range cells {
			want[c.Kind]++
		}
		if l, ok := impl.CountKinds(cells); !ok || !slices.Equal(l, want) {
			t.Errorf("CountKinds(%v) = %v, %v; want %v", cells, l, ok, want)
		}
	}
}

func TestDocumentExampleOfParts(t *testing.T) {
	row, ok := impl.ReadCells(".lFx")
	want := []impl.Cell{{Kind: impl.PtEmpty}, {Kind: impl.PtLeft}, {Kind: impl.PtFlip, State: 1}, {Kind: impl.PtCross}}
	if !ok || !slices.Equal(row, want) {
		t.Fatalf("ReadCells = %v, %v", row, ok)
	}
	for _, c := range row[2:] {
		if way, ok := impl.GoesTo(c, -1); !ok || way != 1 {
			t.Errorf("GoesTo(%v, -1) = %d, %v", c, way, ok)
		}
	}
	mirrored := []impl.Cell{}
	for _, c := range slices.Backward(row) {
		m, _ := impl.MirrorCell(c)
		mirrored = append(mirrored, m)
	}
	if s, ok := impl.CellsText(mirrored); !ok || s != "xfr." {
		t.Errorf("mirrored %q, %v", s, ok)
	}
}

func TestInvalidCells(t *testing.T) {
	for _, kind := range wildNumbers {
		for _, state := range wildNumbers {
			c := impl.Cell{Kind: kind, State: state}
			if isKnown(c) {
				continue
			}
			if s, ok := impl.CellLetter(c); ok || s != "" {
				t.Errorf("CellLetter(%v) = %q, %v", c, s, ok)
			}
			if m, ok := impl.MirrorCell(c); ok || m != (impl.Cell{}) {
				t.Errorf("MirrorCell(%v) = %v, %v", c, m, ok)
			}
			if m, ok := impl.TurnCell(c); ok || m != (impl.Cell{}) {
				t.Errorf("TurnCell(%v) = %v, %v", c, m, ok)
			}
			for side := -1; side <= 1; side++ {
				if way, ok := impl.GoesTo(c, side); ok || way != 0 {
					t.Errorf("GoesTo(%v, %d) = %d, %v", c, side, way, ok)
				}
			}
			for _, place := range []int{0, 4, 9} {
				cells, _ := rowOf(10, 7)
				cells[place] = c
				checkRowFails(t, cells)
			}
		}
	}
}

func TestInvalidSides(t *testing.T) {
	for _, side := range wildNumbers {
		if side >= -1 && side <= 1 {
			continue
		}
		for _, k := range knownCells {
			if way, ok := impl.GoesTo(k.cell, side); ok || way != 0 {
				t.Errorf("GoesTo(%v, %d) = %d, %v", k.cell, side, way, ok)
			}
		}
	}
}

// wrongLetters returns texts that are the letter of no cell and that no row of cells has in it.
func wrongLetters() []string {
	l := []string{"\xff\xfe", "\xc0\xae", "\xe2\x82", "l\xff", "\xff.", "ｆ", "ł", "\ufffd", "l\u0301", "\U0010ffff", "\xed\xa0\x80", " .", ". ", ".\n", "f\x00", "l.L"}
	for b := range 256 {
		s := string([]byte{byte(b)})
		if !strings.Contains(".lrfFxogGc", s) {
			l = append(l, s)
		}
	}
	return l
}

func TestWrongLetters(t *testing.T) {
	wrong := append(wrongLetters(), "", "..", "lr", "ff", "fF", ".lFx", strings.Repeat("g", 91))
	for _, s := range wrong {
		if c, ok := impl.ReadCell(s); ok || c != (impl.Cell{}) {
			t.Errorf("ReadCell(%q) = %v, %v", s, c, ok)
		}
	}
}

func TestWrongTexts(t *testing.T) {
	for _, s := range wrongLetters() {
		checkTextFails(t, s)
		checkTextFails(t, s+".lFx")
		checkTextFails(t, ".l"+s+"Fx")
		checkTextFails(t, ".lFx"+s)
	}
}

func TestListsStayAsTheyAre(t *testing.T) {
	valid, _ := rowOf(60, 3)
	invalid := slices.Clone(valid)
	invalid[59] = impl.Cell{Kind: 8, State: 5}
	for _, whole := range [][]impl.Cell{valid, invalid} {
		for n := range len(whole) + 1 {
			given := slices.Clone(whole)
			impl.CellsText(given[:n])
			impl.CountKinds(given[:n])
			if !slices.Equal(given, whole) {
				t.Fatalf("the first %d of %v were given, and there is now %v", n, whole, given)
			}
		}
	}
}

func TestSpareCapacityIsNotRead(t *testing.T) {
	behind := []impl.Cell{{Kind: 1}, {Kind: 2}, {Kind: 9, State: -4}, {Kind: 3}}
	if s, ok := impl.CellsText(behind[:2]); !ok || s != "lr" {
		t.Errorf("CellsText = %q, %v", s, ok)
	}
	if l, ok := impl.CountKinds(behind[:2]); !ok || !slices.Equal(l, []int{0, 1, 1, 0, 0, 0, 0, 0}) {
		t.Errorf("CountKinds = %v, %v", l, ok)
	}
}

func TestResultsAreNew(t *testing.T) {
	first, _ := impl.ReadCells("lrfFxogGc.")
	for i := range first {
		first[i] = impl.Cell{Kind: 8, State: 8}
	}
	_ = append(first[:0], make([]impl.Cell, cap(first))...)
	second, ok := impl.ReadCells("lrfFxogGc.")
	if s, fine := impl.CellsText(second); !ok || !fine || s != "lrfFxogGc." {
		t.Errorf("read again: %v", second)
	}
	counts, _ := impl.CountKinds(second)
	for i := range counts {
		counts[i] = -1
	}
	if again, ok := impl.CountKinds(second); !ok || !slices.Equal(again, []int{1, 1, 1, 2, 1, 1, 2, 1}) {
		t.Errorf("counted again: %v", again)
	}
}
