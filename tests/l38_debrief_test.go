package tests

import (
	"math"
	"slices"
	"testing"

	"loop.example/g03008/impl"
)

// isTraceOf is IsTrace in a valid land, given the days between its cells.
func isTraceOf(x impl.Land, all [][]int, l []impl.Page) bool {
	for i, p := range l {
		if !isOpenOf(x, p.Cell) {
			return false
		}
		if i > 0 && (all[l[i-1].Cell][p.Cell] < 0 || all[l[i-1].Cell][p.Cell] > p.Day-l[i-1].Day) {
			return false
		}
	}
	return isJournalOf(l)
}

// stillDaysOf is StillDays.
func stillDaysOf(l []impl.Page) int {
	days := 0
	for i, p := range l {
		if i > 0 && p.Cell == l[i-1].Cell {
			days++
		}
	}
	return days
}

// daysNearOf is DaysNear in a valid land.
func daysNearOf(x impl.Land, l []impl.Page, cell int, far int) int {
	days := 0
	for _, p := range l {
		if slices.Contains(canSeeOf(x, cell, far), p.Cell) {
			days++
		}
	}
	return days
}

// lowestFoodOf is LowestFood.
func lowestFoodOf(l []impl.Page) int {
	if len(l) == 0 || !isJournalOf(l) {
		return -1
	}
	return slices.MinFunc(l, func(a impl.Page, b impl.Page) int { return a.Food - b.Food }).Food
}

// firstAtOf is FirstAt.
func firstAtOf(l []impl.Page, cell int) int {
	first := slices.IndexFunc(l, func(p impl.Page) bool { return p.Cell == cell })
	if first < 0 || !isJournalOf(l) {
		return -1
	}
	return l[first].Day
}

func checkTrace(t *testing.T, name string, x impl.Land, l []impl.Page, want bool) {
	t.Helper()
	if got := impl.IsTrace(x, l); got != want {
		t.Errorf("%s: IsTrace(%s, %s) is %v", name, showLand(x), brief(l), got)
	}
}

func checkStill(t *testing.T, name string, l []impl.Page, want int) {
	t.Helper()
	if got := impl.StillDays(l); got != want {
		t.Errorf("%s: StillDays(%s) is %d, not %d", name, brief(l), got, want)
	}
}

func checkDaysNear(t *testing.T, name string, x impl.Land, l []impl.Page, cell int, far int, want int) {
	t.Helper()
	if got := impl.DaysNear(x, l, cell, far); got != want {
		t.Errorf("%s: DaysNear(%s, %s, %d, %d) is %d, not %d", name, showLand(x), brief(l), cell, far, got, want)
	}
}

func checkLowest(t *testing.T, name string, l []impl.Page, want int) {
	t.Helper()
	if got := impl.LowestFood(l); got != want {
		t.Errorf("%s: LowestFood(%s) is %d, not %d", name, brief(l), got, want)
	}
}

func checkFirst(t *testing.T, name string, l []impl.Page, cell int, want int) {
	t.Helper()
	if got := impl.FirstAt(l, cell); got != want {
		t.Errorf("%s: FirstAt(%s, %d) is %d, not %d", name, brief(l), cell, got, want)
	}
}

// stations are sealed pages, each given as its day and its cell.
func stations(entries ...[2]int) []impl.Page {
	l := []impl.Page{}
	for i, e := range entries {
		l = append(l, impl.Page{Day: e[0], Cell: e[1], Food: 90 - i})
	}
	return sealed(l)
}

func TestIsTrace(t *testing.T) {
	for _, c := range []struct {
		name string
		x    impl.Land
		l    []impl.Page
		want bool
	}{
		{"day by day", camp, stations([2]int{1, 0}, [2]int{2, 5}, [2]int{3, 10}, [2]int{4, 11}), true},
		{"standing still", camp, stations([2]int{1, 5}, [2]int{2, 5}, [2]int{9, 5}), true},
		{"there and back", camp, stations([2]int{1, 5}, [2]int{2, 10}, [2]int{3, 5}), true},
		{"with a gap that is just enough", camp, stations([2]int{3, 0}, [2]int{7, 12}), true},
		{"with a gap that is a day too short", camp, stations([2]int{3, 0}, [2]int{6, 12}), false},
		{"with a long gap", camp, stations([2]int{3, 0}, [2]int{4000, 12}), true},
		{"with a gap that is just enough, on the way back", camp, stations([2]int{3, 12}, [2]int{7, 0}), true},
		{"with a gap that is a day too short, on the way back", camp, stations([2]int{3, 12}, [2]int{6, 0}), false},
		{"with a gap around a rock", ring, stations([2]int{0, 1}, [2]int{4, 7}), true},
		{"with a gap over a rock", ring, stations([2]int{0, 1}, [2]int{2, 7}), false},
		{"with a gap that is too short, amid others", camp, stations([2]int{1, 0}, [2]int{2, 5}, [2]int{3, 11}, [2]int{9, 11}), false},
		{"with a gap that is too short at first", camp, stations([2]int{1, 0}, [2]int{2, 10}, [2]int{9, 11}), false},
		{"with a gap that is too short at last", camp, stations([2]int{1, 0}, [2]int{9, 10}, [2]int{10, 12}), false},
		{"with all the days in one gap", camp, stations([2]int{1, 0}, [2]int{50, 0}, [2]int{51, 12}), false},
		{"with a gap across a corner", field, stations([2]int{1, 0}, [2]int{2, 4}), false},
		{"with a step to the next row", field, stations([2]int{1, 2}, [2]int{2, 3}), false},
		{"from the day 0", camp, stations([2]int{0, 0}, [2]int{1, 1}), true},
		{"until the last day", camp, stations([2]int{9999, 0}, [2]int{10000, 1}), true},
		{"on ice", camp, stations([2]int{1, 8}, [2]int{2, 13}), true},
		{"one page", camp, stations([2]int{7, 19}), true},
		{"one page of the first cell", camp, stations([2]int{0, 0}), true},
		{"one page on a rock", camp, stations([2]int{7, 6}), false},
		{"one page on no cell", camp, stations([2]int{7, 20}), false},
		{"no pages", camp, []impl.Page{}, true},
		{"nil", camp, nil, true},
		{"a rock at first", camp, stations([2]int{1, 6}, [2]int{2, 5}), false},
		{"a rock at last", camp, stations([2]int{1, 5}, [2]int{2, 6}), false},
		{"a rock amid others", camp, stations([2]int{1, 5}, [2]int{2, 6}, [2]int{3, 5}), false},
		{"the same rock", camp, stations([2]int{1, 6}, [2]int{2, 6}), false},
		{"no cell of the land", camp, stations([2]int{1, 15}, [2]int{9, 20}), false},
		{"the last cell of another land", camp, stations([2]int{1, 5}, [2]int{90, 63}), false},
		{"the same cell of another land", camp, stations([2]int{1, 63}, [2]int{2, 63}), false},
		{"behind rocks", wall, stations([2]int{1, 0}, [2]int{9000, 4}), false},
		{"all behind rocks", wall, stations([2]int{1, 3}, [2]int{2, 4}, [2]int{4, 14}), true},
		{"a way as long as can be", snake, stations([2]int{0, 0}, [2]int{35, 56}), true},
		{"a way as long as can be, a day too short", snake, stations([2]int{0, 0}, [2]int{34, 56}), false},
		{"days that do not ascend", camp, stations([2]int{2, 5}, [2]int{2, 5}), false},
		{"days that descend", camp, stations([2]int{2, 5}, [2]int{1, 5}), false},
		{"a seal that is not right", camp, changedPages(stations([2]int{1, 0}, [2]int{2, 5}), 1, pageChanges[6]), false},
		{"food that was changed", camp, changedPages(stations([2]int{1, 0}, [2]int{2, 5}), 0, pageChanges[4]), false},
		{"a day that was changed", camp, changedPages(stations([2]int{1, 0}, [2]int{2, 5}), 1, pageChanges[0]), false},
		{"pages without seals", camp, []impl.Page{{Day: 1}, {Day: 2}}, false},
		{"a journal of a hundred pages", camp, sealed(make100(100, 5)), true},
		{"a journal of a hundred and one pages", camp, sealed(make100(101, 5)), false},
		{"a trip that was too fast at last", camp, trip, false},
		{"a trip until then", camp, trip[:3], true},
	} {
		if c.want != isTraceOf(c.x, allDaysOf(c.x), c.l) {
			t.Errorf("%s: the test itself is wrong", c.name)
		}
		checkTrace(t, c.name, c.x, c.l, c.want)
	}
}

// make100 are so many pages of one cell, without seals.
func make100(count int, cell int) []impl.Page {
	l := []impl.Page{}
	for day := range count {
		l = append(l, impl.Page{Day: day, Cell: cell})
	}
	return l
}

func TestJournalsOfExpeditionsCanBeWalked(t *testing.T) {
	throw := dice()
	many := 0
	for x := range histories(250, 50) {
		if len(x.Journal) > 0 && x.Journal[0].Day == 0 {
			// A journal of cells that are strewn was there from the first day on.
			continue
		}
		checkTrace(t, "at every moment", x.Land, x.Journal, true)
		if len(x.Journal) > 15 {
			many++
		}
		checkStill(t, "at every moment", x.Journal, stillDaysOf(x.Journal))
		checkLowest(t, "at every moment", x.Journal, lowestFoodOf(x.Journal))
		cell, far := throw(len(x.Land.Cells)), throw(5)-1
		checkFirst(t, "at every moment", x.Journal, cell, firstAtOf(x.Journal, cell))
		checkDaysNear(t, "at every moment", x.Land, x.Journal, cell, far, daysNearOf(x.Land, x.Journal, cell, far))
	}
	if many < 500 {
		t.Errorf("only %d journals have many pages", many)
	}
}

func TestTracesWithGaps(t *testing.T) {
	throw := dice()
	traces, others := 0, 0
	for x := range everyLand() {
		all := allDaysOf(x)
		for range 3 {
			l, day := []impl.Page{}, throw(4)
			n := throw(len(x.Cells))
			for range throw(6) {
				l = append(l, impl.Page{Day: day, Cell: n, Food: throw(200)})
				next := throw(len(x.Cells))
				if near := besideOf(x, n); len(near) > 0 && throw(3) == 0 {
					next = near[throw(len(near))]
				}
				// Just enough days, now and then one less or one more.
				day += max(1, all[n][next]+max(0, throw(12)-9)-throw(12)/10)
				n = next
			}
			l = sealed(l)
			if len(l) > 0 && throw(20) == 0 {
				l[throw(len(l))].Food++
			}
			want := isTraceOf(x, all, l)
			checkTrace(t, "strewn", x, l, want)
			if want && len(l) > 1 {
				traces++
			} else if !want {
				others++
			}
		}
	}
	if traces < 500 || others < 1000 {
		t.Errorf("there are only %d traces and %d others", traces, others)
	}
}

func TestTracesThatWereChanged(t *testing.T) {
	l := stations([2]int{1, 0}, [2]int{2, 5}, [2]int{3, 10}, [2]int{5, 12}, [2]int{6, 12}, [2]int{9, 18})
	checkTrace(t, "unchanged", camp, l, true)
	all := allDaysOf(camp)
	for at := range l {
		for _, change := range pageChanges {
			checkTrace(t, "changed", camp, changedPages(l, at, change), false)
			// A journal of other pages is a trace if one can go so.
			other := sealed(changedPages(l, at, change))
			checkTrace(t, "other pages", camp, other, isTraceOf(camp, all, other))
		}
		for _, spoil := range badPageFields {
			checkTrace(t, "spoiled", camp, changedPages(l, at, spoil), false)
			checkTrace(t, "spoiled", camp, sealed(changedPages(l, at, spoil)), false)
		}
		for n := range 64 {
			other := sealed(changedPages(l, at, func(p *impl.Page) { p.Cell = n }))
			checkTrace(t, "each cell", camp, other, isTraceOf(camp, all, other))
		}
	}
}

func TestStillDays(t *testing.T) {
	for _, c := range []struct {
		name string
		l    []impl.Page
		want int
	}{
		{"some", pagesAt(5, 5, 10, 10, 10, 5), 3},
		{"all", pagesAt(5, 5, 5, 5), 3},
		{"none", pagesAt(5, 10, 5, 10), 0},
		{"the first two", pagesAt(5, 5, 10), 1},
		{"the last two", pagesAt(5, 10, 10), 1},
		{"one page", pagesAt(5), 0},
		{"one page of the first cell", pagesAt(0), 0},
		{"pages of the first cell", pagesAt(0, 0), 1},
		{"one page before the first cell", pagesAt(-1), 0},
		{"no pages", []impl.Page{}, 0},
		{"nil", nil, 0},
		{"no cells", pagesAt(-1, -1, 64, 64, math.MaxInt, math.MaxInt, math.MinInt, math.MinInt), 4},
		{"the zero page", make([]impl.Page, 3), 2},
		{"the greatest and the least int", pagesAt(math.MaxInt, math.MinInt, -1, 0), 0},
		{"very many pages", make100(5000, 7), 4999},
		{"a journal", trip, 1},
	} {
		checkStill(t, c.name, c.l, c.want)
	}
}

func TestDaysNear(t *testing.T) {
	l := pagesAt(12, 11, 6, 12, 0, 19, 20, -1, 64, 12)
	for _, c := range []struct {
		name string
		cell int
		far  int
		want int
	}{
		{"at a cell", 12, 0, 3},
		{"a step from a cell", 12, 1, 4},
		{"two steps from a cell", 12, 2, 5},
		{"from a rock", 6, 0, 1},
		{"a step from a rock", 6, 1, 2},
		{"three steps from a cell", 12, 3, 6},
		{"all that are cells", 12, 9, 7},
		{"the greatest int far", 12, math.MaxInt, 7},
		{"nothing", 12, -1, 0},
		{"far less than nothing", 12, math.MinInt, 0},
		{"from no cell", 20, 0, 0},
		{"from no cell, far", 20, 99, 0},
		{"from no cell, the greatest int far", 64, math.MaxInt, 0},
		{"from before the first cell", -1, 5, 0},
		{"from before the first cell, with -1", -1, -1, 0},
		{"from the greatest int", math.MaxInt, math.MaxInt, 0},
		{"from the least int", math.MinInt, math.MaxInt, 0},
		{"where nobody was", 4, 0, 0},
	} {
		checkDaysNear(t, c.name, camp, l, c.cell, c.far, c.want)
		checkDaysNear(t, c.name+", no pages", camp, nil, c.cell, c.far, 0)
		checkDaysNear(t, c.name+", no pages", camp, []impl.Page{}, c.cell, c.far, 0)
	}
	throw := dice()
	for x := range everyLand() {
		cells := []int{}
		for range throw(8) {
			cells = append(cells, throw(len(x.Cells)+4)-2)
		}
		pages := pagesAt(cells...)
		n := throw(len(x.Cells)+2) - 1
		for _, far := range []int{-1, 0, 1, 2, 4, 14} {
			checkDaysNear(t, "strewn", x, pages, n, far, daysNearOf(x, pages, n, far))
		}
	}
}

func TestLowestFood(t *testing.T) {
	food := func(foods ...int) []impl.Page {
		l := []impl.Page{}
		for i, n := range foods {
			l = append(l, impl.Page{Day: 3 * i, Cell: i, Food: n})
		}
		return sealed(l)
	}
	for _, c := range []struct {
		name string
		l    []impl.Page
		want int
	}{
		{"in the middle", food(30, 9, 21), 9},
		{"at first", food(9, 30, 21), 9},
		{"at last", food(30, 21, 9), 9},
		{"twice", food(9, 30, 9, 21), 9},
		{"one page", food(17), 17},
		{"nothing", food(30, 0, 21), 0},
		{"one page of nothing", food(0), 0},
		{"the most", food(10000, 10000), 10000},
		{"no pages", []impl.Page{}, -1},
		{"nil", nil, -1},
		{"no journal, by its food", food(30, -5, 21), -1},
		{"no journal, by too much food", food(30, 10001), -1},
		{"no journal, by the last seal", changedPages(food(30, 9, 21), 2, pageChanges[6]), -1},
		{"no journal, by the first food", changedPages(food(30, 9, 21), 0, pageChanges[5]), -1},
		{"the zero page", make([]impl.Page, 1), -1},
	} {
		checkLowest(t, c.name, c.l, c.want)
	}
}

func TestFirstAt(t *testing.T) {
	l := stations([2]int{0, 5}, [2]int{2, 10}, [2]int{3, 10}, [2]int{7, 5}, [2]int{9, 0}, [2]int{40, 63})
	for cell, want := range map[int]int{5: 0, 10: 2, 0: 9, 63: 40, 4: -1, 2: -1, 64: -1, -1: -1, math.MaxInt: -1, math.MinInt: -1} {
		checkFirst(t, "each cell", l, cell, want)
		checkFirst(t, "no pages", nil, cell, -1)
		checkFirst(t, "no pages", []impl.Page{}, cell, -1)
		checkFirst(t, "no journal", changedPages(l, 5, pageChanges[6]), cell, -1)
		checkFirst(t, "no journal", changedPages(l, 0, pageChanges[4]), cell, -1)
		checkFirst(t, "no journal", pagesAt(cell, cell), cell, -1)
	}
	checkFirst(t, "one page", stations([2]int{10000, 7}), 7, 10000)
	checkFirst(t, "one page of the day 0", stations([2]int{0, 0}), 0, 0)
	checkFirst(t, "the day 0 and a later one", stations([2]int{0, 3}, [2]int{1, 3}), 3, 0)
}

func TestJournalsAreRead(t *testing.T) {
	throw := dice()
	for _, l := range slices.Concat(goodJournals(), badJournals()) {
		checkStill(t, "journals", l, stillDaysOf(l))
		checkLowest(t, "journals", l, lowestFoodOf(l))
		for _, cell := range []int{0, 11, 12, 62, 63, throw(64)} {
			checkFirst(t, "journals", l, cell, firstAtOf(l, cell))
			checkDaysNear(t, "journals", plain, l, cell, 3, daysNearOf(plain, l, cell, 3))
		}
		checkTrace(t, "journals", plain, l, isTraceOf(plain, allDaysOf(plain), l))
	}
}

func TestNoTracesInBadLands(t *testing.T) {
	for _, x := range badLands() {
		for _, l := range [][]impl.Page{stations([2]int{1, 0}), stations([2]int{1, 0}, [2]int{2, 0}), trip} {
			checkTrace(t, "bad land", x, l, false)
			for _, far := range []int{-1, 0, 5, math.MaxInt} {
				checkDaysNear(t, "bad land", x, l, 0, far, 0)
			}
		}
		// There is no cell that is not open.
		checkTrace(t, "bad land", x, nil, true)
	}
}

func TestDebriefingsKeepTheirArguments(t *testing.T) {
	for _, l := range [][]impl.Page{nil, trip, ends, pagesAt(64, 5, -1, 5, 12), badJournals()[8], strewnHundred(dice(), 100)} {
		pages, cells := guard(l...), guard(camp.Cells...)
		x := impl.Land{W: camp.W, H: camp.H, Cells: cells.list}
		impl.IsTrace(x, pages.list)
		impl.StillDays(pages.list)
		impl.DaysNear(x, pages.list, 12, 2)
		impl.LowestFood(pages.list)
		impl.FirstAt(pages.list, 12)
		pages.check(t, "the functions of debriefings")
		cells.check(t, "the functions of debriefings")
	}
}

func TestDebriefingsKeepNoState(t *testing.T) {
	l := stations([2]int{1, 0}, [2]int{2, 5})
	first := impl.LowestFood(l)
	l[1].Food--
	second := impl.LowestFood(l)
	third := impl.LowestFood(sealed(l))
	if first != 89 || second != -1 || third != 88 {
		t.Errorf("while the pages change, LowestFood is %d, %d and %d", first, second, third)
	}
}
