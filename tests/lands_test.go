package tests

import (
	"fmt"
	"iter"
	"math"
	"slices"
	"strings"

	"loop.example/g03008/impl"
)

// signs draw the kinds of cells, in the order of their numbers.
const signs = ".i#"

// landOf is the land that the rows draw.
func landOf(rows ...string) impl.Land {
	x := impl.Land{W: len(rows[0]), H: len(rows)}
	for _, sign := range strings.Join(rows, "") {
		x.Cells = append(x.Cells, strings.IndexRune(signs, sign))
	}
	return x
}

// drawingOf is what landOf takes, in one text.
func drawingOf(x impl.Land) string {
	var text strings.Builder
	for n, kind := range x.Cells {
		if n > 0 && n%x.W == 0 {
			text.WriteByte('/')
		}
		text.WriteByte(signs[kind])
	}
	return text.String()
}

// showLand is a text for every land, also for one that cannot be drawn.
func showLand(x impl.Land) string {
	if impl.IsLand(x) {
		return drawingOf(x)
	}
	return fmt.Sprintf("%d by %d with %d cells", x.W, x.H, len(x.Cells))
}

// The lands that the tests draw.
var (
	camp  = landOf(".....", ".##i.", "...i.", ".#...")
	snake = landOf("........", "#######.", "........", ".#######", "........", "#######.", "........", ".#######")
	// The only way in a spiral leads to its middle.
	spiral = landOf("........", "#######.", "......#.", ".####.#.", ".#.##.#.", ".#....#.", ".######.", "........")
	ring   = landOf("...", ".#.", "...")
	cross  = landOf("#.#", ".i.", "#.#")
	wall   = landOf("..#..", "..#..", "..#..")
	gate   = landOf(".#.", ".#.", "...")
	rocks  = landOf("##", "##")
	diced  = landOf(".#.#.#.#", "#.#.#.#.", ".#.#.#.#")
	row    = landOf("..i.#.i.")
	line   = landOf(".", "i", ".", "#", ".", ".", "i", ".")
	field  = landOf("...", "...", "...")
	plain  = landOf(slices.Repeat([]string{"........"}, impl.MaxSide)...)
)

var drawnLands = []impl.Land{camp, snake, spiral, ring, cross, wall, gate, rocks, diced, row, line, field, plain, landOf("."), landOf("i"), landOf("#"), landOf(".."), landOf(".#"), landOf(".", "."), landOf("#", ".")}

// dice returns numbers that look like chance and are always the same.
func dice() func(sides int) int {
	seed := uint64(1)
	return func(sides int) int {
		seed = seed*6364136223846793005 + 1442695040888963407
		return int((seed >> 33) % uint64(sides))
	}
}

// strewnLands are of every size, with few rocks and with many.
func strewnLands() []impl.Land {
	throw := dice()
	lands := []impl.Land{}
	for w := 1; w <= impl.MaxSide; w++ {
		for h := 1; h <= impl.MaxSide; h++ {
			for _, others := range []int{7, 3, 1, 0} {
				x := impl.Land{W: w, H: h}
				for range w * h {
					x.Cells = append(x.Cells, max(impl.LdRock-throw(2+others), impl.LdFree))
				}
				lands = append(lands, x)
			}
		}
	}
	return lands
}

// allLands are all those of one size with cells of the first so many kinds.
func allLands(w int, h int, kinds int) iter.Seq[impl.Land] {
	return func(yield func(impl.Land) bool) {
		cells := make([]int, w*h)
		for more := true; more; {
			if !yield(impl.Land{W: w, H: h, Cells: slices.Clone(cells)}) {
				return
			}
			more = false
			for i := 0; i < len(cells) && !more; i++ {
				cells[i] = (cells[i] + 1) % kinds
				more = cells[i] > 0
			}
		}
	}
}

// smallLands are all those of up to three columns and rows and six cells.
func smallLands() iter.Seq[impl.Land] {
	return func(yield func(impl.Land) bool) {
		for _, sides := range [][2]int{{1, 1}, {1, 2}, {1, 3}, {2, 1}, {3, 1}, {2, 2}, {2, 3}, {3, 2}} {
			for x := range allLands(sides[0], sides[1], 3) {
				if !yield(x) {
					return
				}
			}
		}
	}
}

// everyLand is each land that the tests have.
func everyLand() iter.Seq[impl.Land] {
	return func(yield func(impl.Land) bool) {
		for _, lands := range []iter.Seq[impl.Land]{smallLands(), slices.Values(strewnLands()), slices.Values(drawnLands)} {
			for x := range lands {
				if !yield(x) {
					return
				}
			}
		}
	}
}

// badLands are not valid, each for one reason. Some would be if W * H were
// compared without W and H, also where the product wraps around.
func badLands() []impl.Land {
	lands := []impl.Land{}
	for _, side := range []int{0, -1, -2, -impl.MaxSide, impl.MaxSide + 1, 2 * impl.MaxSide, 100, 1 << 32, -1 << 32, math.MaxInt, math.MaxInt - 1, math.MinInt, math.MinInt + 1} {
		for _, other := range []int{1, 2, 3, impl.MaxSide, side} {
			size := side * other
			if size < 0 || size > 1000 {
				size = 6
			}
			lands = append(lands, impl.Land{W: side, H: other, Cells: make([]int, size)}, impl.Land{W: other, H: side, Cells: make([]int, size)})
		}
	}
	lands = append(lands,
		impl.Land{},
		impl.Land{W: 1<<62 + 2, H: 4, Cells: make([]int, 8)},
		impl.Land{W: 4, H: 1<<62 + 2, Cells: make([]int, 8)},
		impl.Land{W: -1, H: -6, Cells: make([]int, 6)},
		impl.Land{W: -3, H: -2, Cells: make([]int, 6)},
		impl.Land{W: 1 << 32, H: 1 << 32},
		impl.Land{W: math.MinInt, H: 2},
	)
	for _, sides := range [][2]int{{1, 1}, {3, 2}, {1, 5}, {impl.MaxSide, 1}, {impl.MaxSide, impl.MaxSide}} {
		size := sides[0] * sides[1]
		for _, count := range []int{0, size - 1, size + 1, 2 * size, 10000} {
			// The capacity is enough even where the length is not.
			lands = append(lands, impl.Land{W: sides[0], H: sides[1], Cells: make([]int, count, count+2*size)})
		}
		for _, kind := range badKinds {
			for _, at := range []int{0, size / 2, size - 1} {
				cells := make([]int, size)
				cells[at] = kind
				lands = append(lands, impl.Land{W: sides[0], H: sides[1], Cells: cells})
			}
		}
	}
	return lands
}

// badKinds are no kinds of cells, also those of which the lowest bits are.
var badKinds = []int{-1, -2, 3, 4, 128, 255, 256, 257, 258, -256, -254, 1 << 32, 1<<32 + 1, math.MaxInt, math.MinInt, math.MinInt + 1, math.MinInt + 2}

// badCells are numbers of no cell of a land of so many cells.
func badCells(size int) []int {
	return []int{-1, -2, -size, size, size + 1, 2 * size, 256, 1 << 32, math.MaxInt, math.MaxInt - 1, math.MinInt, math.MinInt + 1}
}

// stepsBetween are the columns and the rows from one cell to another one.
func stepsBetween(x impl.Land, a int, b int) (int, int) {
	return max(a%x.W-b%x.W, b%x.W-a%x.W), max(a/x.W-b/x.W, b/x.W-a/x.W)
}

// besideOf is Near of a cell, told by columns and rows.
func besideOf(x impl.Land, n int) []int {
	beside := []int{}
	for m, kind := range x.Cells {
		columns, rows := stepsBetween(x, n, m)
		if columns+rows == 1 && kind != impl.LdRock {
			beside = append(beside, m)
		}
	}
	return beside
}
