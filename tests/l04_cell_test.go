package tests

import (
	"math"
	"slices"
	"testing"

	"loop.example/g03008/impl"
)

func TestKindsAndMaxSide(t *testing.T) {
	if impl.LdFree != 0 || impl.LdIce != 1 || impl.LdRock != 2 {
		t.Errorf("the kinds are %d, %d and %d", impl.LdFree, impl.LdIce, impl.LdRock)
	}
	if impl.MaxSide != 8 {
		t.Errorf("MaxSide is %d", impl.MaxSide)
	}
}

func TestIsLand(t *testing.T) {
	for x := range everyLand() {
		if !impl.IsLand(x) {
			t.Errorf("%s is a land", drawingOf(x))
		}
	}
}

func TestIsLandOfEverySize(t *testing.T) {
	for w := -2; w <= impl.MaxSide+3; w++ {
		for h := -2; h <= impl.MaxSide+3; h++ {
			for size := range 130 {
				want := 1 <= w && w <= 8 && 1 <= h && h <= 8 && size == w*h
				if got := impl.IsLand(impl.Land{W: w, H: h, Cells: make([]int, size)}); got != want {
					t.Errorf("IsLand of %d columns, %d rows and %d cells is %v", w, h, size, got)
				}
			}
		}
	}
}

func TestBadLandsAnswerNothing(t *testing.T) {
	for _, x := range badLands() {
		if impl.IsLand(x) {
			t.Errorf("%.80v is not a land", x)
		}
		for _, n := range append(badCells(len(x.Cells)), 0, 1, 2, 3, 5, 7) {
			if impl.IsCell(x, n) || impl.IsOpen(x, n) {
				t.Errorf("%d is not a cell of %.80v", n, x)
			}
			if got := impl.Near(x, n); len(got) != 0 {
				t.Errorf("Near(%.80v, %d) is %v", x, n, got)
			}
			for _, m := range []int{0, 1, n, 1 - n} {
				if got := impl.Apart(x, n, m); got != -1 {
					t.Errorf("Apart(%.80v, %d, %d) is %d", x, n, m, got)
				}
			}
		}
		for _, kind := range append(badKinds, impl.LdFree, impl.LdIce, impl.LdRock) {
			if got := impl.CountCells(x, kind); got != 0 {
				t.Errorf("CountCells(%.80v, %d) is %d", x, kind, got)
			}
		}
	}
}

func TestIsCellAndIsOpen(t *testing.T) {
	for x := range everyLand() {
		for n, kind := range x.Cells {
			if !impl.IsCell(x, n) {
				t.Errorf("%d is a cell of %s", n, drawingOf(x))
			}
			if open := kind == impl.LdFree || kind == impl.LdIce; impl.IsOpen(x, n) != open {
				t.Errorf("IsOpen(%s, %d) is %v", drawingOf(x), n, !open)
			}
		}
		for _, n := range badCells(len(x.Cells)) {
			if impl.IsCell(x, n) || impl.IsOpen(x, n) {
				t.Errorf("%d is not a cell of %s", n, drawingOf(x))
			}
		}
	}
}

func TestARockIsACellButNotOpen(t *testing.T) {
	for _, c := range []struct {
		x impl.Land
		n int
	}{{camp, 6}, {camp, 16}, {snake, 8}, {rocks, 0}, {rocks, 3}, {row, 4}, {line, 3}, {landOf("#"), 0}} {
		if !impl.IsCell(c.x, c.n) || impl.IsOpen(c.x, c.n) {
			t.Errorf("in %s, the rock %d is not a cell, or is open", drawingOf(c.x), c.n)
		}
	}
}

func TestNear(t *testing.T) {
	cases := []struct {
		name string
		x    impl.Land
		n    int
		want []int
	}{
		{"in the middle", plain, 27, []int{19, 26, 28, 35}},
		{"in the middle of a cross", cross, 4, []int{1, 3, 5, 7}},
		{"beside rocks", camp, 12, []int{11, 13, 17}},
		{"beside ice", camp, 8, []int{3, 9, 13}},
		{"at the upper side", plain, 3, []int{2, 4, 11}},
		{"at the left side", plain, 24, []int{16, 25, 32}},
		{"at the right side", plain, 31, []int{23, 30, 39}},
		{"at the lower side", plain, 60, []int{52, 59, 61}},
		{"in the first corner", plain, 0, []int{1, 8}},
		{"in the corner of the first row's end", plain, 7, []int{6, 15}},
		{"in the corner of the last row's start", plain, 56, []int{48, 57}},
		{"in the last corner", plain, 63, []int{55, 62}},
		{"at the end of a row", camp, 4, []int{3, 9}},
		{"at the start of a row", camp, 5, []int{0, 10}},
		{"at the end of a longer land", camp, 19, []int{14, 18}},
		{"a rock", camp, 6, []int{1, 5, 11}},
		{"a rock at the lower side", camp, 16, []int{11, 15, 17}},
		{"a rock amid open cells", ring, 4, []int{1, 3, 5, 7}},
		{"a rock in a corner", cross, 0, []int{1, 3}},
		{"a rock amid rocks", rocks, 0, nil},
		{"a rock amid open cells, of many", diced, 10, []int{2, 9, 11, 18}},
		{"amid rocks", diced, 9, nil},
		{"only a rock beside it", diced, 0, nil},
		{"one row", row, 2, []int{1, 3}},
		{"one row, its start", row, 0, []int{1}},
		{"one row, its end", row, 7, []int{6}},
		{"one row, a rock", row, 4, []int{3, 5}},
		{"one row, beside a rock", row, 3, []int{2}},
		{"one column", line, 1, []int{0, 2}},
		{"one column, its start", line, 0, []int{1}},
		{"one column, its end", line, 7, []int{6}},
		{"one column, a rock", line, 3, []int{2, 4}},
		{"one column, beside a rock", line, 4, []int{5}},
		{"one cell", landOf("."), 0, nil},
		{"one rock", landOf("#"), 0, nil},
		{"before the first cell", camp, -1, nil},
		{"behind the last cell", camp, 20, nil},
		{"behind the last cell of one", landOf("."), 1, nil},
		{"the greatest int", camp, math.MaxInt, nil},
		{"the least int", camp, math.MinInt, nil},
	}
	for _, c := range cases {
		if got := impl.Near(c.x, c.n); !slices.Equal(got, c.want) {
			t.Errorf("%s: Near(%s, %d) is %v, not %v", c.name, drawingOf(c.x), c.n, got, c.want)
		}
	}
}

func TestNearHasTheOpenCellsOneStepAway(t *testing.T) {
	for x := range everyLand() {
		for n := range x.Cells {
			if got, want := impl.Near(x, n), besideOf(x, n); !slices.Equal(got, want) {
				t.Errorf("Near(%s, %d) is %v, not %v", drawingOf(x), n, got, want)
			}
		}
		for _, n := range badCells(len(x.Cells)) {
			if got := impl.Near(x, n); len(got) != 0 {
				t.Errorf("Near(%s, %d) is %v", drawingOf(x), n, got)
			}
		}
	}
}

func TestCellsAreNearBothWays(t *testing.T) {
	for x := range everyLand() {
		for n := range x.Cells {
			for _, m := range impl.Near(x, n) {
				// A rock is near none, though it has cells near itself.
				if back := slices.Contains(impl.Near(x, m), n); back != impl.IsOpen(x, n) {
					t.Errorf("in %s, %d is near %d, and near the other way is %v", drawingOf(x), m, n, back)
				}
				if got := impl.Apart(x, n, m); got != 1 {
					t.Errorf("in %s, %d is near %d and %d apart", drawingOf(x), m, n, got)
				}
			}
		}
	}
}

func TestRowsDoNotJoinAtTheirEnds(t *testing.T) {
	for w := 2; w <= impl.MaxSide; w++ {
		x := impl.Land{W: w, H: impl.MaxSide, Cells: make([]int, w*impl.MaxSide)}
		for first := w; first < len(x.Cells); first += w {
			if slices.Contains(impl.Near(x, first-1), first) || slices.Contains(impl.Near(x, first), first-1) {
				t.Errorf("with %d columns, %d and %d are near one another", w, first-1, first)
			}
			if got := impl.Apart(x, first-1, first); got != w {
				t.Errorf("with %d columns, %d and %d are %d apart", w, first-1, first, got)
			}
		}
	}
}

func TestApart(t *testing.T) {
	cases := []struct {
		x          impl.Land
		a, b, want int
	}{
		{camp, 0, 19, 7},
		{camp, 4, 15, 7},
		{camp, 4, 5, 5},
		{camp, 3, 3, 0},
		{camp, 1, 4, 3},
		{camp, 2, 17, 3},
		{camp, 8, 11, 3},
		{camp, 6, 7, 1},
		{camp, 6, 6, 0},
		{camp, 6, 16, 2},
		{camp, 12, 7, 1},
		{wall, 0, 4, 4},
		{plain, 0, 63, 14},
		{plain, 7, 56, 14},
		{plain, 7, 8, 8},
		{row, 0, 7, 7},
		{line, 0, 7, 7},
		{rocks, 1, 2, 2},
		{landOf("."), 0, 0, 0},
		{landOf("#"), 0, 0, 0},
	}
	for _, c := range cases {
		if got := impl.Apart(c.x, c.a, c.b); got != c.want {
			t.Errorf("Apart(%s, %d, %d) is %d, not %d", drawingOf(c.x), c.a, c.b, got, c.want)
		}
		if got := impl.Apart(c.x, c.b, c.a); got != c.want {
			t.Errorf("Apart(%s, %d, %d) is %d, not %d", drawingOf(c.x), c.b, c.a, got, c.want)
		}
	}
}

func TestApartIsColumnsPlusRows(t *testing.T) {
	for x := range everyLand() {
		for a := range x.Cells {
			for b := range x.Cells {
				columns, rows := stepsBetween(x, a, b)
				if got := impl.Apart(x, a, b); got != columns+rows {
					t.Errorf("Apart(%s, %d, %d) is %d, not %d", drawingOf(x), a, b, got, columns+rows)
				}
			}
		}
	}
}

func TestApartOfNoCell(t *testing.T) {
	for _, x := range drawnLands {
		for _, n := range badCells(len(x.Cells)) {
			for _, m := range []int{0, len(x.Cells) - 1, n, -n} {
				if a, b := impl.Apart(x, n, m), impl.Apart(x, m, n); a != -1 || b != -1 {
					t.Errorf("in %s, %d and %d are %d and %d apart", drawingOf(x), n, m, a, b)
				}
			}
		}
	}
}

func TestCountCells(t *testing.T) {
	cases := []struct {
		x               impl.Land
		free, ice, rock int
	}{
		{camp, 15, 2, 3},
		{snake, 36, 0, 28},
		{cross, 4, 1, 4},
		{rocks, 0, 0, 4},
		{row, 5, 2, 1},
		{line, 5, 2, 1},
		{plain, 64, 0, 0},
		{landOf("."), 1, 0, 0},
		{landOf("i"), 0, 1, 0},
		{landOf("#"), 0, 0, 1},
		{landOf("i#", ".#"), 1, 1, 2},
	}
	for _, c := range cases {
		for kind, want := range []int{c.free, c.ice, c.rock} {
			if got := impl.CountCells(c.x, kind); got != want {
				t.Errorf("CountCells(%s, %d) is %d, not %d", drawingOf(c.x), kind, got, want)
			}
		}
	}
}

func TestCountCellsOfEachKind(t *testing.T) {
	for x := range everyLand() {
		counts := [3]int{}
		for _, kind := range x.Cells {
			counts[kind]++
		}
		for kind, want := range counts {
			if got := impl.CountCells(x, kind); got != want {
				t.Errorf("CountCells(%s, %d) is %d, not %d", drawingOf(x), kind, got, want)
			}
		}
		for _, kind := range badKinds {
			if got := impl.CountCells(x, kind); got != 0 {
				t.Errorf("CountCells(%s, %d) is %d", drawingOf(x), kind, got)
			}
		}
	}
}

func TestLandsStayAsTheyWere(t *testing.T) {
	for _, x := range append(drawnLands, badLands()[:12]...) {
		cells := guard(x.Cells...)
		x.Cells = cells.list
		for _, n := range append(badCells(len(x.Cells)), 0, len(x.Cells)/2, len(x.Cells)-1) {
			checkOwnMemory(t, "Near", cells, func() []int { return impl.Near(x, n) })
			impl.IsLand(x)
			impl.IsCell(x, n)
			impl.IsOpen(x, n)
			impl.Apart(x, n, 0)
			impl.CountCells(x, n)
			cells.check(t, "the land")
		}
	}
}

func TestLandsKeepNoState(t *testing.T) {
	x := landOf("...", "...")
	first := impl.Near(x, 0)
	x.Cells[1] = impl.LdRock
	second := impl.Near(x, 0)
	x.W, x.H = 2, 3
	third := impl.Near(x, 0)
	if !slices.Equal(first, []int{1, 3}) || !slices.Equal(second, []int{3}) || !slices.Equal(third, []int{2}) {
		t.Errorf("while the land changes, Near is %v, %v and %v", first, second, third)
	}
}
