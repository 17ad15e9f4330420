package impl

import "strings"

const (
	PtEmpty = iota
	PtLeft
	PtRight
	PtFlip
	PtCross
	PtStop
	PtGear
	PtCog

	// kindCount is the number of kinds, and so of the numbers that CountKinds returns.
	kindCount
)

// maxCells is the maximum number of cells of a list.
const maxCells = 90

// restLetters and turnedLetters are the letters for the States 0 and 1. All are single bytes, so that the place of a letter is its kind; a blank stands for kinds without a State 1.
const restLetters = ".lrfxogc"
const turnedLetters = "   F  G "

var kindNames = [kindCount]string{"empty", "left", "right", "flip", "cross", "stop", "gear", "cog"}

type Cell struct {
	Kind  int
	State int
}

// IsCell reports whether a cell is valid.
func IsCell(c Cell) bool {
	return isKind(c.Kind) && (c.State == 0 || IsTurning(c))
}

// IsTurning reports whether a cell is valid and a flip or a gear.
func IsTurning(c Cell) bool {
	return (c.Kind == PtFlip || c.Kind == PtGear) && (c.State == 0 || c.State == 1)
}

// CellLetter returns the letter of a cell.
func CellLetter(c Cell) (string, bool) {
	if !IsCell(c) {
		return "", false
	}
	return string(letterOf(c)), true
}

// ReadCell returns the cell with a letter. It fails if there is none.
func ReadCell(s string) (Cell, bool) {
	if len(s) != 1 {
		return Cell{}, false
	}
	return cellWith(rune(s[0]))
}

// KindName returns the name of a kind.
func KindName(kind int) (string, bool) {
	if !isKind(kind) {
		return "", false
	}
	return kindNames[kind], true
}

// MirrorCell returns the cell as it is seen from behind: left and right ramps are exchanged, and flips and gears have the other state.
func MirrorCell(c Cell) (Cell, bool) {
	if !IsCell(c) {
		return Cell{}, false
	}
	switch c.Kind {
	case PtLeft:
		return Cell{Kind: PtRight}, true
	case PtRight:
		return Cell{Kind: PtLeft}, true
	case PtFlip, PtGear:
		return TurnCell(c)
	}
	return c, true
}

// TurnCell returns a flip or a gear in its other state. It fails for other cells.
func TurnCell(c Cell) (Cell, bool) {
	if !IsTurning(c) {
		return Cell{}, false
	}
	return Cell{Kind: c.Kind, State: 1 - c.State}, true
}

// GoesTo returns where a marble that comes from a side goes. It fails for a stop.
func GoesTo(c Cell, side int) (int, bool) {
	if !IsCell(c) || side < -1 || side > 1 || c.Kind == PtStop {
		return 0, false
	}
	return sideTurn(c)(side), true
}

// CellsText returns the letters of cells, one after the other.
func CellsText(l []Cell) (string, bool) {
	if !areCells(l) {
		return "", false
	}
	var text strings.Builder
	for _, c := range l {
		text.WriteRune(letterOf(c))
	}
	return text.String(), true
}

// ReadCells returns the cells with a CellsText. It fails if there are none.
func ReadCells(s string) ([]Cell, bool) {
	if len(s) > maxCells {
		return nil, false
	}
	cells := make([]Cell, 0, len(s))
	for _, letter := range s {
		c, ok := cellWith(letter)
		if !ok {
			return nil, false
		}
		cells = append(cells, c)
	}
	return cells, true
}

// CountKinds returns how many cells of each kind there are: eight numbers.
func CountKinds(l []Cell) ([]int, bool) {
	if !areCells(l) {
		return nil, false
	}
	counts := make([]int, kindCount)
	for _, c := range l {
		counts[c.Kind]++
	}
	return counts, true
}

func isKind(kind int) bool {
	return kind >= 0 && kind < kindCount
}

// areCells reports whether a list of cells is valid.
func areCells(l []Cell) bool {
	if len(l) > maxCells {
		return false
	}
	for _, c := range l {
		if !IsCell(c) {
			return false
		}
	}
	return true
}

// letterOf returns the letter of a valid cell.
func letterOf(c Cell) rune {
	if c.State == 1 {
		return rune(turnedLetters[c.Kind])
	}
	return rune(restLetters[c.Kind])
}

// cellWith returns the cell with a letter. It tries the valid cells alone, so that the blanks of turnedLetters are never read.
func cellWith(letter rune) (Cell, bool) {
	for kind := range kindCount {
		for state := range 2 {
			c := Cell{Kind: kind, State: state}
			if IsCell(c) && letterOf(c) == letter {
				return c, true
			}
		}
	}
	return Cell{}, false
}

// sideTurn returns how a valid cell other than a stop turns the side from which a marble comes into the way it goes. The closures capture nothing, so that none is allocated for each marble.
func sideTurn(c Cell) func(side int) int {
	toLeft := func(int) int { return -1 }
	toRight := func(int) int { return 1 }
	switch c.Kind {
	case PtLeft:
		return toLeft
	case PtRight:
		return toRight
	case PtFlip, PtGear:
		if c.State == 0 {
			return toLeft
		}
		return toRight
	case PtCross:
		return func(side int) int { return -side }
	}
	return func(int) int { return 0 }
}
