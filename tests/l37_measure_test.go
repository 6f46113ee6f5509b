package tests

import (
	"math"
	"slices"
	"testing"

	"loop.example/g03008/impl"
)

// pagesAt are pages of these cells; nothing else about them is as it should be.
func pagesAt(cells ...int) []impl.Page {
	l := []impl.Page{}
	for i, n := range cells {
		l = append(l, impl.Page{Day: -i, Cell: n, Food: 7 * i, Seal: i})
	}
	return l
}

// visitedOf is Visited.
func visitedOf(l []impl.Page) []int {
	cells := []int{}
	for n := range 64 {
		if slices.ContainsFunc(l, func(p impl.Page) bool { return p.Cell == n }) {
			cells = append(cells, n)
		}
	}
	return cells
}

// farthestOutOf is FarthestOut in a valid land, given the days between its cells.
func farthestOutOf(x impl.Land, all [][]int, base int, l []impl.Page) int {
	farthest := -1
	for _, p := range l {
		if isOpenOf(x, base) && isOpenOf(x, p.Cell) {
			farthest = max(farthest, all[base][p.Cell])
		}
	}
	return farthest
}

// canSeeOf is CanSee in a valid land.
func canSeeOf(x impl.Land, cell int, far int) []int {
	cells := []int{}
	if cell < 0 || cell >= len(x.Cells) {
		return cells
	}
	for n := range x.Cells {
		columns, rows := stepsBetween(x, cell, n)
		if columns+rows <= far {
			cells = append(cells, n)
		}
	}
	return cells
}

// percentOf is the greatest number of percent of a whole that a part has.
func percentOf(part int, whole int) int {
	percent := 0
	for whole > 0 && (percent+1)*whole <= 100*part {
		percent++
	}
	return percent
}

// foodLeftShareOf is FoodLeftShare of an expedition of valid parts.
func foodLeftShareOf(t impl.Trek) int {
	if !isTrekOf(t) {
		return 0
	}
	left := t.Party.Food
	for _, d := range t.Depots {
		left += d.Food
	}
	return percentOf(left, t.Given)
}

func checkVisited(t *testing.T, name string, l []impl.Page, want []int) {
	t.Helper()
	if got := impl.Visited(l); !slices.Equal(got, want) {
		t.Errorf("%s: Visited(%s) are %v, not %v", name, brief(l), got, want)
	}
}

func checkFarthestOut(t *testing.T, name string, x impl.Land, base int, l []impl.Page, want int) {
	t.Helper()
	if got := impl.FarthestOut(x, base, l); got != want {
		t.Errorf("%s: FarthestOut(%s, %d, %s) is %d, not %d", name, showLand(x), base, brief(l), got, want)
	}
}

func checkCanSee(t *testing.T, name string, x impl.Land, cell int, far int, want []int) {
	t.Helper()
	if got := impl.CanSee(x, cell, far); !slices.Equal(got, want) {
		t.Errorf("%s: CanSee(%s, %d, %d) are %v, not %v", name, showLand(x), cell, far, got, want)
	}
}

func checkFoodLeft(t *testing.T, name string, x impl.Trek, want int) {
	t.Helper()
	if got := impl.FoodLeftShare(x); got != want {
		t.Errorf("%s: FoodLeftShare(%s) is %d, not %d", name, brief(x), got, want)
	}
}

func TestVisited(t *testing.T) {
	for _, c := range []struct {
		name string
		l    []impl.Page
		want []int
	}{
		{"some cells", pagesAt(12, 5, 10), []int{5, 10, 12}},
		{"the same cell again", pagesAt(5, 12, 5, 5, 12), []int{5, 12}},
		{"one cell", pagesAt(7, 7, 7), []int{7}},
		{"one page", pagesAt(7), []int{7}},
		{"the first cell", pagesAt(0), []int{0}},
		{"the last cell", pagesAt(63), []int{63}},
		{"the first and the last cell", pagesAt(63, 0), []int{0, 63}},
		{"behind the last cell", pagesAt(64), nil},
		{"before the first cell", pagesAt(-1), nil},
		{"some that are no cells", pagesAt(64, 3, -1, 65, 62, math.MaxInt, math.MinInt, 128, -64, 1<<32, 256), []int{3, 62}},
		{"no pages", []impl.Page{}, nil},
		{"nil", nil, nil},
		{"the zero page", make([]impl.Page, 3), []int{0}},
		{"a journal", trip, []int{0, 11, 12}},
		{"another journal", ends, []int{0, 62, 63}},
	} {
		checkVisited(t, c.name, c.l, c.want)
	}
	every := []int{}
	for n := range 64 {
		every = append(every, 63-n)
	}
	backwards := pagesAt(every...)
	slices.Reverse(every)
	checkVisited(t, "every cell", backwards, every)
	checkVisited(t, "every cell, many times", slices.Repeat(backwards, 300), every)
}

func TestVisitedOfStrewnPages(t *testing.T) {
	throw := dice()
	for _, l := range append(goodJournals(), badJournals()...) {
		checkVisited(t, "journals", l, visitedOf(l))
	}
	for range 3000 {
		l := pagesAt()
		for range throw(90) {
			l = append(l, impl.Page{Day: throw(5), Cell: throw(80) - 8})
		}
		checkVisited(t, "strewn", l, visitedOf(l))
	}
}

func TestFarthestOut(t *testing.T) {
	for _, c := range []struct {
		name string
		x    impl.Land
		base int
		l    []impl.Page
		want int
	}{
		{"some cells", camp, 0, pagesAt(5, 12, 10), 4},
		{"the farthest one first", camp, 0, pagesAt(12, 5, 0), 4},
		{"the farthest one last", camp, 0, pagesAt(5, 0, 19), 7},
		{"from the other end", camp, 19, pagesAt(5, 12, 18), 6},
		{"the base alone", camp, 0, pagesAt(0, 0), 0},
		{"one page", camp, 0, pagesAt(4), 4},
		{"no pages", camp, 0, []impl.Page{}, -1},
		{"nil", camp, 0, nil, -1},
		{"no pages, a base that is a rock", camp, 6, nil, -1},
		{"a base that is a rock", camp, 6, pagesAt(5, 12, 6), -1},
		{"a base that is no cell", camp, 20, pagesAt(5, 12, 20), -1},
		{"a base before the first cell", camp, -1, pagesAt(5, 12, -1), -1},
		{"a base of the greatest int", camp, math.MaxInt, pagesAt(5, math.MaxInt), -1},
		{"a base of the least int", camp, math.MinInt, pagesAt(5, math.MinInt), -1},
		{"a page on a rock", camp, 0, pagesAt(5, 6), 1},
		{"pages on rocks", camp, 0, pagesAt(6, 7, 16), -1},
		{"a page on no cell", camp, 0, pagesAt(20, 5), 1},
		{"pages on no cells", camp, 0, pagesAt(20, -1, math.MaxInt, math.MinInt), -1},
		{"a page behind rocks", wall, 0, pagesAt(4, 1), 1},
		{"pages behind rocks", wall, 0, pagesAt(3, 4, 9), -1},
		{"pages behind rocks and on the base", wall, 0, pagesAt(3, 0, 4), 0},
		{"a long way", snake, 0, pagesAt(7, 56, 48), 35},
		{"a single cell", landOf("i"), 0, pagesAt(0), 0},
		{"a single rock", landOf("#"), 0, pagesAt(0), -1},
		{"a journal", camp, 0, trip, 4},
	} {
		checkFarthestOut(t, c.name, c.x, c.base, c.l, c.want)
	}
}

func TestFarthestOutInEveryLand(t *testing.T) {
	throw := dice()
	far, none := 0, 0
	for x := range everyLand() {
		all := allDaysOf(x)
		for range 3 {
			base := throw(len(x.Cells)+2) - 1
			cells := []int{}
			for range throw(6) {
				cells = append(cells, throw(len(x.Cells)+3)-1)
			}
			l := pagesAt(cells...)
			want := farthestOutOf(x, all, base, l)
			checkFarthestOut(t, "strewn", x, base, l, want)
			if want > 0 {
				far++
			} else if want < 0 {
				none++
			}
		}
	}
	if far < 1000 || none < 1000 {
		t.Errorf("%d are far, %d are nowhere", far, none)
	}
}

func TestCanSee(t *testing.T) {
	all := []int{0, 1, 2, 3, 4, 5, 6, 7, 8, 9, 10, 11, 12, 13, 14, 15, 16, 17, 18, 19}
	for _, c := range []struct {
		name string
		cell int
		far  int
		want []int
	}{
		{"one cell far", 0, 1, []int{0, 1, 5}},
		{"two cells far", 0, 2, []int{0, 1, 2, 5, 6, 10}},
		{"from a rock", 7, 1, []int{2, 6, 7, 8, 12}},
		{"from a rock at the edge", 16, 1, []int{11, 15, 16, 17}},
		{"in the middle", 12, 1, []int{7, 11, 12, 13, 17}},
		{"at the end of a row", 9, 1, []int{4, 8, 9, 14}},
		{"the cell itself", 12, 0, []int{12}},
		{"a rock itself", 6, 0, []int{6}},
		{"the last cell itself", 19, 0, []int{19}},
		{"nothing", 12, -1, nil},
		{"far less than nothing", 12, math.MinInt, nil},
		{"all but the farthest cell", 0, 6, all[:19]},
		{"all", 0, 7, all},
		{"farther than all", 0, 8, all},
		{"far beyond", 12, 1000, all},
		{"the greatest int far", 12, math.MaxInt, all},
		{"from no cell", 20, 5, nil},
		{"from no cell, all", 20, math.MaxInt, nil},
		{"from no cell, with -1", 20, -1, nil},
		{"from before the first cell", -1, 5, nil},
		{"from the greatest int", math.MaxInt, math.MaxInt, nil},
		{"from the least int", math.MinInt, 5, nil},
	} {
		checkCanSee(t, c.name, camp, c.cell, c.far, c.want)
	}
}

func TestCanSeeInEveryLand(t *testing.T) {
	for x := range everyLand() {
		for n := -1; n <= len(x.Cells); n++ {
			for _, far := range []int{-1, 0, 1, 2, 3, 5, 14, 15, math.MaxInt} {
				checkCanSee(t, "each cell", x, n, far, canSeeOf(x, n, far))
			}
		}
		for _, n := range badCells(len(x.Cells)) {
			checkCanSee(t, "no cell", x, n, 3, nil)
			checkCanSee(t, "no cell", x, n, -1, nil)
		}
	}
}

func TestFoodLeftShare(t *testing.T) {
	for _, c := range []struct {
		name   string
		change func(t *impl.Trek)
		want   int
	}{
		// 35 of 71 are left.
		{"on the way", func(t *impl.Trek) {}, 49},
		{"all is left", func(t *impl.Trek) { t.Given, t.Eaten = 35, 0 }, 100},
		{"all but one unit is left", func(t *impl.Trek) { t.Given, t.Eaten = 36, 1 }, 97},
		{"a half", func(t *impl.Trek) { t.Given, t.Eaten = 70, 35 }, 50},
		{"a third", func(t *impl.Trek) { t.Given, t.Eaten = 105, 70 }, 33},
		{"at the base", atTheBase(14), 40},
		{"two thirds", func(t *impl.Trek) { atTheBase(24)(t); t.Depots, t.Given, t.Eaten = nil, 36, 12 }, 66},
		{"just one percent", func(t *impl.Trek) { t.Given, t.Eaten = 3500, 3465 }, 1},
		{"one unit less than one percent", func(t *impl.Trek) { t.Given, t.Eaten = 3501, 3466 }, 0},
		{"just two percent", func(t *impl.Trek) { t.Given, t.Eaten = 1750, 1715 }, 2},
		{"nothing is left", func(t *impl.Trek) { atTheBase(0)(t); t.Depots, t.Given = nil, 36 }, 0},
		{"all is in depots", func(t *impl.Trek) { atTheBase(0)(t) }, 21},
		{"all is carried", func(t *impl.Trek) { t.Depots, t.Given = nil, 61 }, 40},
		{"nothing given", func(t *impl.Trek) { atTheBase(0)(t); t.Depots, t.Given, t.Eaten = nil, 0, 0 }, 0},
		{"the most given", func(t *impl.Trek) { t.Given, t.Eaten = 1000000, 999965 }, 0},
		{"much given and much left", func(t *impl.Trek) { t.Party.Food, t.Given, t.Eaten = 9990, 10001, 1 }, 99},
		{"on the last day", func(t *impl.Trek) { t.Day = 5000 }, 49},
		{"not valid, as a unit is lost", func(t *impl.Trek) { t.Given++ }, 0},
		{"not valid, as too much was given", func(t *impl.Trek) { t.Given, t.Eaten = 1000001, 999966 }, 0},
		{"not valid, as less than nothing was eaten", func(t *impl.Trek) { t.Given, t.Eaten = 34, -1 }, 0},
		{"not valid, by its day", func(t *impl.Trek) { t.Day = 5001 }, 0},
		{"not valid, by its past", func(t *impl.Trek) { t.Party.Past = pastOf("ss") }, 0},
		{"not valid, by its journal", func(t *impl.Trek) { t.Journal[1].Seal++ }, 0},
		{"not valid, by its land", func(t *impl.Trek) { t.Land.H = 5 }, 0},
		{"the least int given", func(t *impl.Trek) { t.Given = math.MinInt }, 0},
		{"the greatest int given", func(t *impl.Trek) { t.Given = math.MaxInt }, 0},
		{"nothing given, and not valid", func(t *impl.Trek) { t.Given = 0 }, 0},
		{"the zero expedition", func(t *impl.Trek) { *t = impl.Trek{} }, 0},
	} {
		x := changedTrek(c.change)
		if impl.IsLand(x.Land) && impl.AreCrew(x.Party.Crew) && foodLeftShareOf(x) != c.want {
			t.Errorf("%s: the test itself is wrong: %d percent of the food of %v are left", c.name, foodLeftShareOf(x), x)
		}
		checkFoodLeft(t, c.name, x, c.want)
	}
}

func TestFoodLeftShareOfStrewnTreks(t *testing.T) {
	shares := map[int]bool{}
	for x := range strewnTreks(8000) {
		want := foodLeftShareOf(x)
		checkFoodLeft(t, "strewn", x, want)
		shares[want] = true
	}
	for x := range histories(100, 40) {
		want := foodLeftShareOf(x)
		checkFoodLeft(t, "at every moment", x, want)
		shares[want] = true
	}
	if len(shares) < 80 {
		t.Errorf("there are only %d shares", len(shares))
	}
	for name, x := range badTreks() {
		checkFoodLeft(t, name, x, 0)
	}
}

func TestStormShare(t *testing.T) {
	for _, c := range []struct {
		past string
		want int
	}{
		{"s..", 33}, {"ss.", 66}, {".s", 50}, {"s", 100}, {".", 0}, {"sss", 100}, {"...", 0}, {"s......", 14}, {"ssssss.", 85},
		{"s.......", 12}, {"sssss...", 62}, {"s..........", 9}, {"..........s", 9}, {"s.s.s", 60}, {"", 0},
	} {
		if got := impl.StormShare(pastOf(c.past)); got != c.want {
			t.Errorf("StormShare(%q) is %d, not %d", c.past, got, c.want)
		}
	}
	if got := impl.StormShare(nil); got != 0 {
		t.Errorf("without days, StormShare is %d", got)
	}
	for past := range allPasts(12) {
		if got, want := impl.StormShare(past), percentOf(stormsOf(past), len(past)); got != want {
			t.Errorf("StormShare(%v) is %d, not %d", past, got, want)
		}
	}
	for _, past := range longPasts() {
		if got, want := impl.StormShare(past), percentOf(stormsOf(past), len(past)); got != want {
			t.Errorf("of a past of %d days, StormShare is %d, not %d", len(past), got, want)
		}
	}
	// One storm in a hundred days is just one percent.
	hundred := append(make([]bool, 99), true)
	if got := impl.StormShare(hundred); got != 1 {
		t.Errorf("of one storm in a hundred days, StormShare is %d", got)
	}
	if got := impl.StormShare(append(hundred, false)); got != 0 {
		t.Errorf("of one storm in a hundred and one days, StormShare is %d", got)
	}
}

func TestOpenShare(t *testing.T) {
	for _, c := range []struct {
		name string
		x    impl.Land
		want int
	}{
		{"camp", camp, 85},
		{"open cells alone", plain, 100},
		{"rocks alone", rocks, 0},
		{"a single rock", landOf("#"), 0},
		{"a single cell", landOf("."), 100},
		{"a single cell of ice", landOf("i"), 100},
		{"a half", landOf("#i"), 50},
		{"a third", landOf("#", ".", "#"), 33},
		{"two thirds", landOf("#.i"), 66},
		{"one of 64", impl.Land{W: 8, H: 8, Cells: append(slices.Repeat([]int{2}, 63), 1)}, 1},
		{"63 of 64", impl.Land{W: 8, H: 8, Cells: append(make([]int, 63), 2)}, 98},
		{"no land", impl.Land{}, 0},
	} {
		if got := impl.OpenShare(c.x); got != c.want {
			t.Errorf("%s: OpenShare(%s) is %d, not %d", c.name, showLand(c.x), got, c.want)
		}
	}
	for x := range everyLand() {
		open := 0
		for n := range x.Cells {
			if isOpenOf(x, n) {
				open++
			}
		}
		if got, want := impl.OpenShare(x), percentOf(open, len(x.Cells)); got != want {
			t.Errorf("OpenShare(%s) is %d, not %d", drawingOf(x), got, want)
		}
	}
}

func TestMeasuresInBadLands(t *testing.T) {
	for _, x := range badLands() {
		if got := impl.OpenShare(x); got != 0 {
			t.Errorf("OpenShare(%s) is %d", showLand(x), got)
		}
		for _, n := range []int{0, 1, -1, math.MaxInt, math.MinInt} {
			for _, far := range []int{-1, 0, 5, math.MaxInt, math.MinInt} {
				checkCanSee(t, "bad land", x, n, far, nil)
			}
			checkFarthestOut(t, "bad land", x, n, pagesAt(0, 1, n), -1)
			checkFarthestOut(t, "bad land", x, n, nil, -1)
		}
	}
}

func TestMeasuresKeepTheirArguments(t *testing.T) {
	for _, l := range [][]impl.Page{nil, trip, ends, pagesAt(64, 5, -1, 5, 12), badJournals()[8]} {
		pages, cells := guard(l...), guard(camp.Cells...)
		x := impl.Land{W: camp.W, H: camp.H, Cells: cells.list}
		checkOwnMemory(t, "Visited", pages, func() []int { return impl.Visited(pages.list) })
		impl.FarthestOut(x, 0, pages.list)
		pages.check(t, "FarthestOut")
		cells.check(t, "FarthestOut")
	}
	for _, y := range []impl.Land{camp, plain, rocks, landOf("."), {W: 3, H: 2, Cells: make([]int, 5)}, {}} {
		cells := guard(y.Cells...)
		x := impl.Land{W: y.W, H: y.H, Cells: cells.list}
		for _, far := range []int{0, 1, 3, 20, -1} {
			checkOwnMemory(t, "CanSee", cells, func() []int { return impl.CanSee(x, 0, far) })
		}
		impl.OpenShare(x)
		cells.check(t, "OpenShare")
	}
	for _, x := range keptTreks() {
		g := guardTrek(x)
		impl.FoodLeftShare(g.trek)
		impl.StormShare(g.trek.Party.Past)
		g.check(t, "FoodLeftShare and StormShare")
	}
}

func TestMeasuresKeepNoState(t *testing.T) {
	l := pagesAt(5, 12)
	first := impl.FarthestOut(camp, 0, l)
	l[1].Cell = 19
	second := impl.FarthestOut(camp, 0, l)
	third := impl.FarthestOut(camp, 6, l)
	if first != 4 || second != 7 || third != -1 {
		t.Errorf("while the pages change, FarthestOut is %d, %d and %d", first, second, third)
	}
}
