package tests

import (
	"math"
	"slices"
	"testing"

	"loop.example/g03008/impl"
)

// canBeOf is CanBe in a valid land, told step by step.
func canBeOf(x impl.Land, from []int, steps int) []int {
	reached := make([]bool, len(x.Cells))
	for _, n := range from {
		if steps >= 0 && isOpenOf(x, n) {
			reached[n] = true
		}
	}
	for range min(max(steps, 0), len(x.Cells)) {
		before := slices.Clone(reached)
		for n, was := range before {
			for _, beside := range besideOf(x, n) {
				reached[beside] = reached[beside] || was
			}
		}
	}
	cells := []int{}
	for n, can := range reached {
		if can {
			cells = append(cells, n)
		}
	}
	return cells
}

// apartOf is Apart of two cells.
func apartOf(x impl.Land, a int, b int) int {
	columns, rows := stepsBetween(x, a, b)
	return columns + rows
}

// seenOf is Seen in a valid land.
func seenOf(x impl.Land, mark int, far int) []int {
	cells := []int{}
	for n := range x.Cells {
		if mark < 0 || mark >= len(x.Cells) || !isOpenOf(x, n) {
			continue
		}
		if apartOf(x, n, mark) == far {
			cells = append(cells, n)
		}
	}
	return cells
}

// placesAfterOf is PlacesAfter in a valid land.
func placesAfterOf(x impl.Land, from []int, steps int, marks []int, fars []int) []int {
	if len(marks) != len(fars) {
		return nil
	}
	places := canBeOf(x, from, steps)
	for i, mark := range marks {
		seen := seenOf(x, mark, fars[i])
		places = slices.DeleteFunc(places, func(n int) bool { return !slices.Contains(seen, n) })
	}
	return places
}

// openCells are all of them.
func openCells(x impl.Land) []int {
	cells := []int{}
	for n := range x.Cells {
		if isOpenOf(x, n) {
			cells = append(cells, n)
		}
	}
	return cells
}

func TestCanBe(t *testing.T) {
	cases := []struct {
		name  string
		x     impl.Land
		from  []int
		steps int
		want  []int
	}{
		{"some steps", camp, []int{0}, 2, []int{0, 1, 2, 5, 10}},
		{"no steps", camp, []int{7, 12, 3}, 0, []int{3, 12}},
		{"one step", camp, []int{12}, 1, []int{11, 12, 13, 17}},
		{"from the end of a row", camp, []int{4}, 1, []int{3, 4, 9}},
		{"from the beginning of a row", camp, []int{5}, 1, []int{0, 5, 10}},
		{"from the last cell", camp, []int{19}, 1, []int{14, 18, 19}},
		{"from several", camp, []int{0, 19}, 1, []int{0, 1, 5, 14, 18, 19}},
		{"from several that meet", camp, []int{1, 3}, 1, []int{0, 1, 2, 3, 4, 8}},
		{"from a cell twice", camp, []int{0, 0}, 1, []int{0, 1, 5}},
		{"from cells that descend", camp, []int{19, 0}, 1, []int{0, 1, 5, 14, 18, 19}},
		{"from a rock", camp, []int{6}, 9, nil},
		{"from a rock and another cell", camp, []int{6, 0}, 1, []int{0, 1, 5}},
		{"from no cells and another one", camp, []int{-1, 20, 64, math.MaxInt, 0, math.MinInt, 128}, 1, []int{0, 1, 5}},
		{"from no cells", camp, []int{-1, 20, 21, 63, 64, 65}, 9, nil},
		{"from nowhere", camp, []int{}, 9, nil},
		{"from nowhere, nil", camp, nil, 9, nil},
		{"fewer steps than none", camp, []int{0}, -1, nil},
		{"the least int of steps", camp, []int{0}, math.MinInt, nil},
		{"as many steps as there are cells", camp, []int{0}, 20, openCells(camp)},
		{"far more steps than there are cells", camp, []int{0}, math.MaxInt, openCells(camp)},
		{"one step too few for all", camp, []int{0}, 6, []int{0, 1, 2, 3, 4, 5, 8, 9, 10, 11, 12, 13, 14, 15, 17, 18}},
		{"just enough for all", camp, []int{0}, 7, openCells(camp)},
		{"behind a wall", wall, []int{0}, 100, []int{0, 1, 5, 6, 10, 11}},
		{"on both sides of a wall", wall, []int{14, 0}, 1, []int{0, 1, 5, 9, 13, 14}},
		{"alone", diced, []int{0}, 100, []int{0}},
		{"in a column", line, []int{0}, 100, []int{0, 1, 2}},
		{"in a row", row, []int{7}, 100, []int{5, 6, 7}},
		{"a single cell", landOf("i"), []int{0}, 100, []int{0}},
		{"a single rock", landOf("#"), []int{0}, 100, nil},
		{"from the last of 64", plain, []int{63}, 1, []int{55, 62, 63}},
		{"all of 64", plain, []int{63}, 14, openCells(plain)},
		{"no land", impl.Land{}, []int{0}, 100, nil},
	}
	for _, c := range cases {
		if got := impl.CanBe(c.x, c.from, c.steps); !slices.Equal(got, c.want) {
			t.Errorf("%s: CanBe(%s, %v, %d) is %v, not %v", c.name, drawingOf(c.x), c.from, c.steps, got, c.want)
		}
	}
}

func TestSeen(t *testing.T) {
	cases := []struct {
		name      string
		x         impl.Land
		mark, far int
		want      []int
	}{
		{"a rock, near", camp, 6, 1, []int{1, 5, 11}},
		{"a rock, where one cannot be", camp, 6, 0, nil},
		{"a rock, far", camp, 6, 4, []int{4, 14, 18}},
		{"a rock, as far as can be", camp, 6, 5, []int{19}},
		{"a rock, very far", camp, 16, 6, []int{4}},
		{"an open cell", camp, 12, 1, []int{11, 13, 17}},
		{"the cell itself", camp, 12, 0, []int{12}},
		{"a cell on ice", camp, 8, 1, []int{3, 9, 13}},
		{"as far as can be", camp, 0, 7, []int{19}},
		{"farther than can be", camp, 0, 8, nil},
		{"far farther than can be", camp, 0, math.MaxInt, nil},
		{"nearer than can be", camp, 0, -1, nil},
		{"far nearer than can be", camp, 0, math.MinInt, nil},
		{"no cell", camp, 20, 1, nil},
		{"no cell, as far as it is", camp, 20, -1, nil},
		{"a negative number", camp, -1, 1, nil},
		{"a negative number, as far as it is", camp, -1, -1, nil},
		{"the greatest int", camp, math.MaxInt, 1, nil},
		{"the least int", camp, math.MinInt, 1, nil},
		{"where nothing is open", rocks, 0, 1, nil},
		{"behind a wall", wall, 7, 1, []int{6, 8}},
		{"across a land of 64", plain, 0, 14, []int{63}},
		{"in a land of 64", plain, 63, 1, []int{55, 62}},
		{"no land", impl.Land{}, 0, 0, nil},
		{"no land, as far as it is", impl.Land{}, 0, -1, nil},
	}
	for _, c := range cases {
		if got := impl.Seen(c.x, c.mark, c.far); !slices.Equal(got, c.want) {
			t.Errorf("%s: Seen(%s, %d, %d) is %v, not %v", c.name, drawingOf(c.x), c.mark, c.far, got, c.want)
		}
	}
}

func TestCross(t *testing.T) {
	cases := []struct {
		name string
		a, b []int
		want []int
	}{
		{"some", []int{1, 5, 11}, []int{11, 1}, []int{1, 11}},
		{"all", []int{1, 5}, []int{1, 5}, []int{1, 5}},
		{"none", []int{1, 5}, []int{2, 6}, nil},
		{"in the order of a", []int{5, 1, 3}, []int{1, 2, 3, 4, 5}, []int{5, 1, 3}},
		{"a number several times in b", []int{1, 5}, []int{5, 5, 5}, []int{5}},
		{"a number several times in a", []int{5, 1, 5, 2}, []int{5, 2}, []int{5, 5, 2}},
		{"a number several times in both", []int{5, 5}, []int{5, 5, 5}, []int{5, 5}},
		{"nothing in a", nil, []int{1}, nil},
		{"nothing in b", []int{1}, nil, nil},
		{"nothing in both", nil, nil, nil},
		{"nothing in both, empty", []int{}, []int{}, nil},
		{"zero", []int{0}, []int{1}, nil},
		{"zero in both", []int{0, 1}, []int{0}, []int{0}},
		{"negative numbers", []int{-1, -5, 3}, []int{-5, -3}, []int{-5}},
		{"the greatest and the least int", []int{math.MaxInt, 7, math.MinInt}, []int{math.MinInt, math.MaxInt}, []int{math.MaxInt, math.MinInt}},
		{"numbers with the same lowest bits", []int{1, 65, 257, 1<<32 + 1}, []int{65}, []int{65}},
	}
	for _, c := range cases {
		if got := impl.Cross(c.a, c.b); !slices.Equal(got, c.want) {
			t.Errorf("%s: Cross(%v, %v) is %v, not %v", c.name, c.a, c.b, got, c.want)
		}
	}
	throw := dice()
	for range 3000 {
		a, b, want := strewnNumbers(throw, -3, 12), strewnNumbers(throw, -3, 12), []int{}
		for _, n := range a {
			if slices.Contains(b, n) {
				want = append(want, n)
			}
		}
		if got := impl.Cross(a, b); !slices.Equal(got, want) {
			t.Errorf("Cross(%v, %v) is %v, not %v", a, b, got, want)
		}
	}
}

// strewnNumbers are up to ten, from the least one on, so many of them.
func strewnNumbers(throw func(sides int) int, least int, many int) []int {
	list := make([]int, throw(11))
	for i := range list {
		list[i] = least + throw(many)
	}
	return list
}

func TestPlacesAfter(t *testing.T) {
	cases := []struct {
		name  string
		from  []int
		steps int
		marks []int
		fars  []int
		want  []int
	}{
		{"one mark", []int{0}, 3, []int{6}, []int{1}, []int{1, 5, 11}},
		{"two marks", []int{0}, 3, []int{6, 0}, []int{1, 3}, []int{11}},
		{"two marks, the other way round", []int{0}, 3, []int{0, 6}, []int{3, 1}, []int{11}},
		{"two marks that contradict", []int{0}, 3, []int{6, 0}, []int{1, 2}, nil},
		{"the same mark twice", []int{0}, 3, []int{6, 6}, []int{1, 1}, []int{1, 5, 11}},
		{"the same mark, not so far", []int{0}, 3, []int{6, 6}, []int{1, 2}, nil},
		{"many marks", []int{0}, 9, []int{6, 7, 16, 0}, []int{2, 1, 2, 4}, []int{12}},
		{"no marks", []int{0}, 1, nil, nil, []int{0, 1, 5}},
		{"no marks, empty", []int{0}, 1, []int{}, nil, []int{0, 1, 5}},
		{"too few steps for what is seen", []int{0}, 2, []int{6}, []int{1}, []int{1, 5}},
		{"no steps", []int{1, 5, 8}, 0, []int{6}, []int{1}, []int{1, 5}},
		{"fewer steps than none", []int{0}, -1, []int{6}, []int{1}, nil},
		{"fewer steps than none, no marks", []int{0}, -1, nil, nil, nil},
		{"from nowhere", nil, 9, []int{6}, []int{1}, nil},
		{"from a rock", []int{6}, 9, []int{6}, []int{1}, nil},
		{"more marks than fars", []int{0}, 3, []int{6, 0}, []int{1}, nil},
		{"more fars than marks", []int{0}, 3, []int{6}, []int{1, 3}, nil},
		{"marks and no fars", []int{0}, 3, []int{6}, nil, nil},
		{"fars and no marks", []int{0}, 3, nil, []int{1}, nil},
		{"a mark that is no cell", []int{0}, 3, []int{20}, []int{1}, nil},
		{"a mark that is no cell, as far as it is", []int{0}, 3, []int{-1}, []int{-1}, nil},
		{"a mark that is no cell behind another one", []int{0}, 3, []int{6, 20}, []int{1, -1}, nil},
		{"far below 0", []int{0}, 3, []int{6}, []int{-1}, nil},
		{"the greatest int", []int{0}, 3, []int{6}, []int{math.MaxInt}, nil},
		{"the greatest int of steps", []int{0}, math.MaxInt, []int{0}, []int{7}, []int{19}},
	}
	for _, c := range cases {
		if got := impl.PlacesAfter(camp, c.from, c.steps, c.marks, c.fars); !slices.Equal(got, c.want) {
			t.Errorf("%s: PlacesAfter(%v, %d, %v, %v) is %v, not %v", c.name, c.from, c.steps, c.marks, c.fars, got, c.want)
		}
	}
}

func TestPlacesInEveryLand(t *testing.T) {
	throw := dice()
	for x := range everyLand() {
		size := len(x.Cells)
		for _, steps := range []int{-1, 0, 1, 2, 5, size, 1000000} {
			from := strewnNumbers(throw, -2, size+4)
			if got, want := impl.CanBe(x, from, steps), canBeOf(x, from, steps); !slices.Equal(got, want) {
				t.Errorf("CanBe(%s, %v, %d) is %v, not %v", drawingOf(x), from, steps, got, want)
			}
			mark, far := throw(size+4)-2, throw(x.W+x.H)-1
			if got, want := impl.Seen(x, mark, far), seenOf(x, mark, far); !slices.Equal(got, want) {
				t.Errorf("Seen(%s, %d, %d) is %v, not %v", drawingOf(x), mark, far, got, want)
			}
			marks, fars := []int{mark, throw(size)}, []int{far, throw(x.W + x.H)}
			for many := range 3 {
				got, want := impl.PlacesAfter(x, from, steps, marks[:many], fars[:many]), placesAfterOf(x, from, steps, marks[:many], fars[:many])
				if !slices.Equal(got, want) {
					t.Errorf("PlacesAfter(%s, %v, %d, %v, %v) is %v, not %v", drawingOf(x), from, steps, marks[:many], fars[:many], got, want)
				}
			}
		}
	}
}

func TestPlacesFromEachCell(t *testing.T) {
	for _, x := range drawnLands {
		for n := range x.Cells {
			for steps := range 4 {
				if got, want := impl.CanBe(x, []int{n}, steps), canBeOf(x, []int{n}, steps); !slices.Equal(got, want) {
					t.Errorf("CanBe(%s, %d, %d) is %v, not %v", drawingOf(x), n, steps, got, want)
				}
			}
			for far := -1; far <= x.W+x.H; far++ {
				if got, want := impl.Seen(x, n, far), seenOf(x, n, far); !slices.Equal(got, want) {
					t.Errorf("Seen(%s, %d, %d) is %v, not %v", drawingOf(x), n, far, got, want)
				}
			}
		}
	}
}

func TestOneIsAlwaysWhereOneCanBe(t *testing.T) {
	throw := dice()
	days := 0
	for x := range everyLand() {
		start := throw(len(x.Cells))
		if !isOpenOf(x, start) {
			continue
		}
		at := start
		for steps := range 12 {
			if can := impl.CanBe(x, []int{start}, steps); !slices.Contains(can, at) {
				t.Errorf("in %s, CanBe from %d in %d steps is %v, and one is at %d", drawingOf(x), start, steps, can, at)
			}
			marks := []int{throw(len(x.Cells)), throw(len(x.Cells))}
			fars := []int{apartOf(x, at, marks[0]), apartOf(x, at, marks[1])}
			if places := impl.PlacesAfter(x, []int{start}, steps, marks, fars); !slices.Contains(places, at) {
				t.Errorf("in %s, PlacesAfter from %d in %d steps by %v and %v is %v, and one is at %d", drawingOf(x), start, steps, marks, fars, places, at)
			}
			next := append(besideOf(x, at), at)
			at = next[throw(len(next))]
			days++
		}
	}
	if days < 10000 {
		t.Errorf("there are only %d days", days)
	}
}

func TestIsLost(t *testing.T) {
	cases := []struct {
		places []int
		want   bool
	}{
		{nil, true},
		{[]int{}, true},
		{[]int{4}, false},
		{[]int{0}, false},
		{[]int{-1}, false},
		{[]int{math.MinInt}, false},
		{[]int{4, 5}, true},
		{[]int{0, 1, 2}, true},
		{make([]int, 64), true},
		{make([]int, 1, 64), false},
		{make([]int, 0, 1), true},
	}
	for _, c := range cases {
		if got := impl.IsLost(c.places); got != c.want {
			t.Errorf("IsLost(%v) is %v", c.places, got)
		}
	}
}

func TestNoPlacesInBadLands(t *testing.T) {
	for _, x := range badLands() {
		for _, n := range []int{0, 1, -1} {
			for _, steps := range []int{0, 1, 100, -1} {
				if got := impl.CanBe(x, []int{n, 0, 2}, steps); len(got) != 0 {
					t.Errorf("CanBe(%.80v, %d, %d) is %v", x, n, steps, got)
				}
				if got := impl.Seen(x, n, steps); len(got) != 0 {
					t.Errorf("Seen(%.80v, %d, %d) is %v", x, n, steps, got)
				}
				for _, marks := range [][]int{nil, {n}} {
					if got := impl.PlacesAfter(x, []int{n, 0, 2}, steps, marks, marks); len(got) != 0 {
						t.Errorf("PlacesAfter(%.80v, %d, %d, %v) is %v", x, n, steps, marks, got)
					}
				}
			}
		}
	}
}

func TestPlacesOfNoCells(t *testing.T) {
	for _, x := range drawnLands {
		bad := badCells(len(x.Cells))
		if got := impl.CanBe(x, bad, 5); len(got) != 0 {
			t.Errorf("CanBe(%s, %v, 5) is %v", drawingOf(x), bad, got)
		}
		for _, mark := range bad {
			for far := -2; far < 16; far++ {
				if got := impl.Seen(x, mark, far); len(got) != 0 {
					t.Errorf("Seen(%s, %d, %d) is %v", drawingOf(x), mark, far, got)
				}
				if got := impl.PlacesAfter(x, openCells(x), 1, []int{mark}, []int{far}); len(got) != 0 {
					t.Errorf("PlacesAfter(%s) by %d that is %d far is %v", drawingOf(x), mark, far, got)
				}
			}
		}
	}
}

func TestPlacesKeepTheirArguments(t *testing.T) {
	cells, from := guard(camp.Cells...), guard(12, 0, 6, -1, 12)
	marks, fars := guard(6, 0), guard(1, 3)
	x := impl.Land{W: camp.W, H: camp.H, Cells: cells.list}
	for _, steps := range []int{-1, 0, 1, 3, 100} {
		for _, g := range []guarded[int]{cells, from, marks, fars} {
			checkOwnMemory(t, "CanBe", g, func() []int { return impl.CanBe(x, from.list, steps) })
			checkOwnMemory(t, "Seen", g, func() []int { return impl.Seen(x, 6, steps) })
			checkOwnMemory(t, "Cross", g, func() []int { return impl.Cross(g.list, from.list) })
			checkOwnMemory(t, "Cross", g, func() []int { return impl.Cross(from.list, g.list) })
			checkOwnMemory(t, "PlacesAfter", g, func() []int { return impl.PlacesAfter(x, from.list, steps, marks.list, fars.list) })
			checkOwnMemory(t, "PlacesAfter without marks", g, func() []int { return impl.PlacesAfter(x, from.list, steps, nil, nil) })
			impl.IsLost(g.list)
			g.check(t, "IsLost")
		}
	}
}
