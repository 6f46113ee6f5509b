package tests

import (
	"math"
	"slices"
	"testing"

	"loop.example/g03008/impl"
)

// allDaysOf are the Days from each cell to each, told by trying each cell in
// between; -1 where there is no way.
func allDaysOf(x impl.Land) [][]int {
	const far = 1000
	size := len(x.Cells)
	days := make([][]int, size)
	for a := range days {
		days[a] = slices.Repeat([]int{far}, size)
		if x.Cells[a] != impl.LdRock {
			days[a][a] = 0
			for _, b := range besideOf(x, a) {
				days[a][b] = 1
			}
		}
	}
	for m := range size {
		for a := range size {
			for b := range size {
				days[a][b] = min(days[a][b], days[a][m]+days[m][b])
			}
		}
	}
	for _, list := range days {
		for b := range list {
			if list[b] >= far {
				list[b] = -1
			}
		}
	}
	return days
}

// wayOf is WayTo, told by the days to its end from each cell.
func wayOf(x impl.Land, days [][]int, a int, b int) []int {
	if days[a][b] < 0 {
		return nil
	}
	way := []int{a}
	for a != b {
		for _, n := range besideOf(x, a) {
			if days[n][b] < days[a][b] {
				a = n
				break
			}
		}
		way = append(way, a)
	}
	return way
}

// isWayOf is IsWay, told by columns and rows.
func isWayOf(x impl.Land, way []int) bool {
	for i, n := range way {
		if n < 0 || n >= len(x.Cells) || x.Cells[n] == impl.LdRock || i > 0 && !slices.Contains(besideOf(x, way[i-1]), n) {
			return false
		}
	}
	return len(way) > 0
}

var someWays = []struct {
	name string
	x    impl.Land
	a, b int
	way  []int
}{
	{"straight in a row", camp, 0, 4, []int{0, 1, 2, 3, 4}},
	{"straight, the other way", camp, 4, 0, []int{4, 3, 2, 1, 0}},
	{"straight in a column", camp, 15, 5, []int{15, 10, 5}},
	{"over ice", camp, 3, 18, []int{3, 8, 13, 18}},
	{"round rocks", camp, 1, 11, []int{1, 0, 5, 10, 11}},
	{"round rocks, the other way", camp, 11, 1, []int{11, 10, 5, 0, 1}},
	{"round a rock below", camp, 15, 17, []int{15, 10, 11, 12, 17}},
	{"longer than the cells are apart", gate, 0, 2, []int{0, 3, 6, 7, 8, 5, 2}},
	{"of several, the least next cell", plain, 0, 18, []int{0, 1, 2, 10, 18}},
	{"of several, the other way", plain, 18, 0, []int{18, 10, 2, 1, 0}},
	{"of several, up to the right", plain, 16, 2, []int{16, 8, 0, 1, 2}},
	{"of several, down to the left", plain, 2, 16, []int{2, 1, 0, 8, 16}},
	{"of two round a rock", ring, 0, 8, []int{0, 1, 2, 5, 8}},
	{"of two round a rock, back", ring, 8, 0, []int{8, 5, 2, 1, 0}},
	{"of two round a rock, beside it", ring, 3, 5, []int{3, 0, 1, 2, 5}},
	{"of two round a rock, across", ring, 7, 1, []int{7, 6, 3, 0, 1}},
	{"to the cell beside", plain, 9, 10, []int{9, 10}},
	{"in one row", row, 3, 0, []int{3, 2, 1, 0}},
	{"in one column", line, 4, 7, []int{4, 5, 6, 7}},
	{"the same cell", camp, 8, 8, []int{8}},
	{"the same cell, amid rocks", diced, 9, 9, []int{9}},
	{"the same cell, the only one", landOf("."), 0, 0, []int{0}},
	{"the same cell of ice, the only one", landOf("i"), 0, 0, []int{0}},
	{"the same rock", camp, 6, 6, nil},
	{"the same rock, the only cell", landOf("#"), 0, 0, nil},
	{"from a rock", camp, 6, 5, nil},
	{"to a rock", camp, 5, 6, nil},
	{"from a rock to a rock", camp, 6, 7, nil},
	{"behind a wall", wall, 0, 4, nil},
	{"behind a wall, the other way", wall, 14, 10, nil},
	{"behind a corner", diced, 0, 9, nil},
	{"behind a rock in one row", row, 3, 5, nil},
	{"behind a rock in one column", line, 7, 0, nil},
	{"the ends of rows do not join", wall, 4, 5, nil},
	{"to no cell", camp, 0, 20, nil},
	{"from no cell", camp, 20, 0, nil},
	{"before the first cell", camp, -1, 0, nil},
	{"the same, which is none", camp, 20, 20, nil},
	{"the same, which is none and negative", camp, -1, -1, nil},
}

func TestDaysAndWayTo(t *testing.T) {
	for _, c := range someWays {
		if got := impl.WayTo(c.x, c.a, c.b); !slices.Equal(got, c.way) {
			t.Errorf("%s: WayTo(%s, %d, %d) is %v, not %v", c.name, drawingOf(c.x), c.a, c.b, got, c.way)
		}
		if got := impl.Days(c.x, c.a, c.b); got != len(c.way)-1 {
			t.Errorf("%s: Days(%s, %d, %d) is %d, not %d", c.name, drawingOf(c.x), c.a, c.b, got, len(c.way)-1)
		}
	}
}

func TestTheLongestWays(t *testing.T) {
	for _, c := range []struct {
		name       string
		x          impl.Land
		a, b, days int
	}{
		{"from corner to corner", plain, 0, 63, 14},
		{"from the other corner to the other one", plain, 7, 56, 14},
		{"to and fro", snake, 0, 56, 35},
		{"into a spiral", spiral, 0, 34, 38},
	} {
		for _, ends := range [][2]int{{c.a, c.b}, {c.b, c.a}} {
			if got := impl.Days(c.x, ends[0], ends[1]); got != c.days {
				t.Errorf("%s: Days(%d, %d) is %d, not %d", c.name, ends[0], ends[1], got, c.days)
			}
			if got := impl.WayTo(c.x, ends[0], ends[1]); len(got) != c.days+1 || !isWayOf(c.x, got) {
				t.Errorf("%s: WayTo(%d, %d) is %v", c.name, ends[0], ends[1], got)
			}
		}
		if got := impl.Farthest(c.x, c.a); got != c.b {
			t.Errorf("%s: Farthest(%d) is %d, not %d", c.name, c.a, got, c.b)
		}
		if got := impl.Reach(c.x, c.a, c.days-1); slices.Contains(got, c.b) {
			t.Errorf("%s: Reach(%d, %d) has %d", c.name, c.a, c.days-1, c.b)
		}
		if got := impl.Reach(c.x, c.a, c.days); !slices.Contains(got, c.b) {
			t.Errorf("%s: Reach(%d, %d) is %v", c.name, c.a, c.days, got)
		}
	}
}

func TestDaysAreTheLeast(t *testing.T) {
	for x := range everyLand() {
		days := allDaysOf(x)
		for a := range x.Cells {
			for b := range x.Cells {
				if got := impl.Days(x, a, b); got != days[a][b] {
					t.Errorf("Days(%s, %d, %d) is %d, not %d", drawingOf(x), a, b, got, days[a][b])
				}
			}
		}
	}
}

func TestAWayIsAsLongAsItsDays(t *testing.T) {
	for x := range everyLand() {
		for a := range x.Cells {
			for b := range x.Cells {
				days, way := impl.Days(x, a, b), impl.WayTo(x, a, b)
				if len(way) != days+1 {
					t.Errorf("in %s, %d and %d are %d days apart on the way %v", drawingOf(x), a, b, days, way)
				}
				if days >= 0 && (!impl.IsWay(x, way) || way[0] != a || way[days] != b) {
					t.Errorf("in %s, %v is not a way from %d to %d", drawingOf(x), way, a, b)
				}
				if back := impl.Days(x, b, a); back != days {
					t.Errorf("in %s, from %d to %d it takes %d days, and %d back", drawingOf(x), a, b, days, back)
				}
				if days >= 0 && days < impl.Apart(x, a, b) {
					t.Errorf("in %s, %d and %d are only %d days apart", drawingOf(x), a, b, days)
				}
			}
		}
	}
}

func TestWayToTakesTheLeastNextCell(t *testing.T) {
	for x := range everyLand() {
		days := allDaysOf(x)
		for a := range x.Cells {
			for b := range x.Cells {
				if got, want := impl.WayTo(x, a, b), wayOf(x, days, a, b); !slices.Equal(got, want) {
					t.Errorf("WayTo(%s, %d, %d) is %v, not %v", drawingOf(x), a, b, got, want)
				}
			}
		}
	}
}

func TestReach(t *testing.T) {
	cases := []struct {
		name    string
		x       impl.Land
		a, days int
		want    []int
	}{
		{"no day", camp, 0, 0, []int{0}},
		{"no day, on ice", camp, 8, 0, []int{8}},
		{"a day", camp, 0, 1, []int{0, 1, 5}},
		{"a day, in the middle", plain, 27, 1, []int{19, 26, 27, 28, 35}},
		{"two days", camp, 12, 2, []int{8, 10, 11, 12, 13, 14, 17, 18}},
		{"as many days as it takes", camp, 0, 7, []int{0, 1, 2, 3, 4, 5, 8, 9, 10, 11, 12, 13, 14, 15, 17, 18, 19}},
		{"a day less", camp, 0, 6, []int{0, 1, 2, 3, 4, 5, 8, 9, 10, 11, 12, 13, 14, 15, 17, 18}},
		{"more days than cells", ring, 3, 100, []int{0, 1, 2, 3, 5, 6, 7, 8}},
		{"the greatest int", ring, 3, math.MaxInt, []int{0, 1, 2, 3, 5, 6, 7, 8}},
		{"nearly the greatest int", ring, 3, math.MaxInt - 1, []int{0, 1, 2, 3, 5, 6, 7, 8}},
		{"behind a wall", wall, 8, 100, []int{3, 4, 8, 9, 13, 14}},
		{"amid rocks", diced, 9, 100, []int{9}},
		{"one cell", landOf("."), 0, 9, []int{0}},
		{"one cell, no day", landOf("."), 0, 0, []int{0}},
		{"one row", row, 2, 1, []int{1, 2, 3}},
		{"one column", line, 6, 9, []int{4, 5, 6, 7}},
		{"negative days", camp, 0, -1, nil},
		{"the least int of days", camp, 0, math.MinInt, nil},
		{"a rock", camp, 6, 3, nil},
		{"a rock, no day", camp, 6, 0, nil},
		{"one rock", landOf("#"), 0, 5, nil},
		{"no cell", camp, 20, 5, nil},
		{"a negative cell", camp, -1, 5, nil},
	}
	for _, c := range cases {
		if got := impl.Reach(c.x, c.a, c.days); !slices.Equal(got, c.want) {
			t.Errorf("%s: Reach(%s, %d, %d) is %v, not %v", c.name, drawingOf(c.x), c.a, c.days, got, c.want)
		}
	}
}

func TestReachHasTheCellsWithinTheDays(t *testing.T) {
	for x := range everyLand() {
		all := allDaysOf(x)
		for _, days := range []int{math.MinInt, -1, 0, 1, 2, 3, 5, 8, 13, len(x.Cells), math.MaxInt} {
			for a := range x.Cells {
				want := []int{}
				for b, needed := range all[a] {
					if needed >= 0 && needed <= days {
						want = append(want, b)
					}
				}
				if got := impl.Reach(x, a, days); !slices.Equal(got, want) {
					t.Errorf("Reach(%s, %d, %d) is %v, not %v", drawingOf(x), a, days, got, want)
				}
			}
		}
	}
}

func TestFarthest(t *testing.T) {
	cases := []struct {
		name    string
		x       impl.Land
		a, want int
	}{
		{"the last corner", camp, 0, 19},
		{"the first corner", camp, 19, 0},
		{"not the one that is farthest apart", gate, 0, 2},
		{"the least of several", camp, 2, 11},
		{"the least of two in a row", landOf("...."), 1, 3},
		{"the least of two ends", landOf("..."), 1, 0},
		{"the least of two corners", field, 1, 6},
		{"the one across", ring, 1, 7},
		{"the least of four corners", field, 4, 0},
		{"behind itself", ring, 0, 8},
		{"before itself", ring, 8, 0},
		{"only on this side of a wall", wall, 13, 4},
		{"in one row", row, 3, 0},
		{"in one column", line, 4, 7},
		{"none but itself", diced, 9, 9},
		{"none but itself, the last", landOf(".#."), 2, 2},
		{"one cell", landOf("."), 0, 0},
		{"one cell of ice", landOf("i"), 0, 0},
		{"a rock", camp, 6, -1},
		{"one rock", landOf("#"), 0, -1},
		{"no cell", camp, 20, -1},
		{"a negative cell", camp, -1, -1},
	}
	for _, c := range cases {
		if got := impl.Farthest(c.x, c.a); got != c.want {
			t.Errorf("%s: Farthest(%s, %d) is %d, not %d", c.name, drawingOf(c.x), c.a, got, c.want)
		}
	}
}

func TestFarthestIsTheLeastOfTheFarthest(t *testing.T) {
	for x := range everyLand() {
		for a, days := range allDaysOf(x) {
			want := -1
			if most := slices.Max(days); most >= 0 {
				want = slices.Index(days, most)
			}
			if got := impl.Farthest(x, a); got != want {
				t.Errorf("Farthest(%s, %d) is %d, not %d", drawingOf(x), a, got, want)
			}
		}
	}
}

func TestIsWay(t *testing.T) {
	cases := []struct {
		name string
		x    impl.Land
		way  []int
		want bool
	}{
		{"one cell", camp, []int{0}, true},
		{"one cell of ice", camp, []int{8}, true},
		{"one cell amid rocks", diced, []int{9}, true},
		{"one cell, the only one", landOf("."), []int{0}, true},
		{"back and forth", camp, []int{0, 1, 0, 5}, true},
		{"back and forth over ice", camp, []int{8, 13, 8, 13, 8}, true},
		{"not the shortest", camp, []int{0, 5, 10, 11, 10, 5, 0, 1}, true},
		{"round a rock and home", ring, []int{0, 1, 2, 5, 8, 7, 6, 3, 0}, true},
		{"in one column", line, []int{2, 1, 0}, true},
		{"none", camp, []int{}, false},
		{"nil", camp, nil, false},
		{"one rock", camp, []int{6}, false},
		{"one rock, the only cell", landOf("#"), []int{0}, false},
		{"one that is no cell", camp, []int{20}, false},
		{"one that is negative", camp, []int{-1}, false},
		{"stays on a cell", camp, []int{0, 0}, false},
		{"stays on a cell later", camp, []int{0, 1, 1}, false},
		{"stays on the only cell", landOf("."), []int{0, 0}, false},
		{"stays on a rock", camp, []int{6, 6}, false},
		{"into a rock", camp, []int{0, 1, 6}, false},
		{"out of a rock", camp, []int{6, 1, 0}, false},
		{"through a rock", camp, []int{5, 6, 11}, false},
		{"from rock to rock", camp, []int{6, 7}, false},
		{"over a cell", camp, []int{0, 2}, false},
		{"over a cell later", camp, []int{0, 1, 3}, false},
		{"over a row", camp, []int{0, 10}, false},
		{"to one beside the cell before", camp, []int{0, 1, 5}, false},
		{"to one beside a cell long before", plain, []int{0, 1, 2, 3, 8}, false},
		{"across", plain, []int{0, 9}, false},
		{"from a row's end to the next row", camp, []int{4, 5}, false},
		{"from a row's start to the row before", camp, []int{5, 4}, false},
		{"out at the end", camp, []int{19, 20}, false},
		{"out at the start", camp, []int{0, -1}, false},
		{"in from before the start", camp, []int{-1, 0}, false},
		{"to the greatest int", camp, []int{0, math.MaxInt}, false},
		{"to the least int", camp, []int{0, math.MinInt, 0}, false},
	}
	for _, c := range cases {
		if got := impl.IsWay(c.x, c.way); got != c.want {
			t.Errorf("%s: IsWay(%s, %v) is %v", c.name, drawingOf(c.x), c.way, got)
		}
	}
}

// checkWaysOn checks a way and each one that goes on from it for so many cells,
// to cells and to the two numbers beside them.
func checkWaysOn(t *testing.T, x impl.Land, way []int, more int) {
	if got, want := impl.IsWay(x, way), isWayOf(x, way); got != want {
		t.Errorf("IsWay(%s, %v) is %v", drawingOf(x), way, got)
	}
	for n := -1; n <= len(x.Cells) && more > 0; n++ {
		checkWaysOn(t, x, append(slices.Clone(way), n), more-1)
	}
}

func TestIsWayOfEveryShortList(t *testing.T) {
	for x := range allLands(2, 2, 3) {
		checkWaysOn(t, x, nil, 4)
	}
	for x := range allLands(3, 2, 3) {
		checkWaysOn(t, x, nil, 2)
	}
	for _, x := range []impl.Land{ring, cross, landOf("..#", "i..")} {
		checkWaysOn(t, x, nil, 4)
	}
}

func TestIsWayOfLongLists(t *testing.T) {
	throw := dice()
	for _, x := range []impl.Land{camp, snake, plain, ring, spiral} {
		way := []int{0}
		for len(way) < 3000 {
			beside := besideOf(x, way[len(way)-1])
			way = append(way, beside[throw(len(beside))])
		}
		if !impl.IsWay(x, way) {
			t.Errorf("in %s, a way of %d cells is none", drawingOf(x), len(way))
		}
		for _, at := range []int{0, 1, 2, 1500, 2998, 2999} {
			for n := -1; n <= len(x.Cells); n++ {
				spoiled := slices.Clone(way)
				spoiled[at] = n
				if got, want := impl.IsWay(x, spoiled), isWayOf(x, spoiled); got != want {
					t.Errorf("in %s, IsWay with %d at the index %d is %v", drawingOf(x), n, at, got)
				}
			}
		}
	}
}

func TestNoWaysInBadLands(t *testing.T) {
	for _, x := range badLands() {
		for _, a := range append(badCells(len(x.Cells)), 0, 1, 2, 5) {
			checkNoWays(t, x, a, a)
			checkNoWays(t, x, a, 0)
			checkNoWays(t, x, 0, a)
		}
		if impl.IsWay(x, nil) || impl.IsWay(x, []int{}) {
			t.Errorf("in %.80v, a list of no cells is a way", x)
		}
	}
}

func TestNoWaysBetweenNoCells(t *testing.T) {
	for _, x := range drawnLands {
		for _, n := range badCells(len(x.Cells)) {
			checkNoWays(t, x, n, n)
			for m := range x.Cells {
				checkNoWays(t, x, n, m)
				if got := impl.Days(x, m, n); got != -1 {
					t.Errorf("Days(%s, %d, %d) is %d", drawingOf(x), m, n, got)
				}
				if got := impl.WayTo(x, m, n); len(got) != 0 {
					t.Errorf("WayTo(%s, %d, %d) is %v", drawingOf(x), m, n, got)
				}
				if impl.IsWay(x, []int{m, n}) {
					t.Errorf("IsWay(%s, [%d %d]) is true", drawingOf(x), m, n)
				}
			}
		}
	}
}

// checkNoWays takes a cell a that is not open, or a land that is not valid.
func checkNoWays(t *testing.T, x impl.Land, a int, b int) {
	t.Helper()
	if got := impl.Days(x, a, b); got != -1 {
		t.Errorf("Days(%.80v, %d, %d) is %d", x, a, b, got)
	}
	if got := impl.WayTo(x, a, b); len(got) != 0 {
		t.Errorf("WayTo(%.80v, %d, %d) is %v", x, a, b, got)
	}
	for _, days := range []int{0, 1, b, math.MaxInt} {
		if got := impl.Reach(x, a, days); len(got) != 0 {
			t.Errorf("Reach(%.80v, %d, %d) is %v", x, a, days, got)
		}
	}
	if got := impl.Farthest(x, a); got != -1 {
		t.Errorf("Farthest(%.80v, %d) is %d", x, a, got)
	}
	if impl.IsWay(x, []int{a}) || impl.IsWay(x, []int{a, b}) {
		t.Errorf("IsWay(%.80v, [%d]) or of [%d %d] is true", x, a, a, b)
	}
}

func TestWaysStayAsTheyWere(t *testing.T) {
	for _, x := range append(drawnLands, badLands()[:12]...) {
		cells := guard(x.Cells...)
		x.Cells = cells.list
		for _, a := range []int{0, len(x.Cells) / 2, len(x.Cells) - 1, -1, math.MaxInt} {
			checkOwnMemory(t, "WayTo", cells, func() []int { return impl.WayTo(x, a, 0) })
			checkOwnMemory(t, "WayTo", cells, func() []int { return impl.WayTo(x, 0, a) })
			checkOwnMemory(t, "Reach", cells, func() []int { return impl.Reach(x, a, 3) })
			impl.Days(x, 0, a)
			impl.Farthest(x, a)
			way := guard(impl.WayTo(x, 0, a)...)
			impl.IsWay(x, way.list)
			way.check(t, "IsWay")
			cells.check(t, "the land")
		}
	}
}

func TestWaysKeepNoState(t *testing.T) {
	x := landOf("...", "...")
	first := impl.WayTo(x, 0, 2)
	x.Cells[1] = impl.LdRock
	second := impl.WayTo(x, 0, 2)
	x.W, x.H = 2, 3
	third := impl.WayTo(x, 0, 2)
	if !slices.Equal(first, []int{0, 1, 2}) || !slices.Equal(second, []int{0, 3, 4, 5, 2}) || !slices.Equal(third, []int{0, 2}) {
		t.Errorf("while the land changes, WayTo is %v, %v and %v", first, second, third)
	}
}
