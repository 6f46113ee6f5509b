package tests

import (
	"math"
	"slices"
	"testing"

	"loop.example/g03008/impl"
)

// searchAreaOf is SearchArea, told by allDaysOf the land.
func searchAreaOf(x impl.Land, all [][]int, last int, days int) []int {
	area := []int{}
	for n := range x.Cells {
		if isOpenOf(x, last) && all[last][n] >= 0 && all[last][n] <= days {
			area = append(area, n)
		}
	}
	return area
}

// searchOrderOf is SearchOrder, told day by day and cell by cell.
func searchOrderOf(x impl.Land, all [][]int, base int, area []int) []int {
	order := []int{}
	for days := range len(x.Cells) {
		for n := range x.Cells {
			for _, wanted := range area {
				if n == wanted && isOpenOf(x, base) && all[base][n] == days {
					order = append(order, n)
				}
			}
		}
	}
	return order
}

// meetDayOf is MeetDay in a valid land, told by a party that goes on each day.
func meetDayOf(x impl.Land, all [][]int, base int, way []int, start int) (int, int) {
	if !isWayOf(x, way) || !isOpenOf(x, base) || start < 0 || start > 100 {
		return -1, -1
	}
	ahead := way
	for day := 0; day <= 200; day++ {
		if need := all[base][ahead[0]]; day >= start && need >= 0 && start+need <= day {
			return day, ahead[0]
		}
		if len(ahead) > 1 {
			ahead = ahead[1:]
		}
	}
	return -1, -1
}

// stroll is a way of so many cells, from one on, never staying.
func stroll(throw func(sides int) int, x impl.Land, from int, cells int) []int {
	way := []int{from}
	for len(way) < cells {
		next := besideOf(x, way[len(way)-1])
		if len(next) == 0 {
			break
		}
		way = append(way, next[throw(len(next))])
	}
	return way
}

// toAndFro is a way of so many cells, which two take in turn.
func toAndFro(a int, b int, cells int) []int {
	return slices.Repeat([]int{a, b}, cells)[:cells]
}

func checkArea(t *testing.T, name string, x impl.Land, last int, days int, want []int) {
	t.Helper()
	if got := impl.SearchArea(x, last, days); !slices.Equal(got, want) {
		t.Errorf("%s: SearchArea(%s, %d, %d) is %v, not %v", name, showLand(x), last, days, got, want)
	}
}

func checkOrder(t *testing.T, name string, x impl.Land, base int, area []int, want []int) {
	t.Helper()
	if got := impl.SearchOrder(x, base, area); !slices.Equal(got, want) {
		t.Errorf("%s: SearchOrder(%s, %d, %v) is %v, not %v", name, showLand(x), base, area, got, want)
	}
}

func checkMeeting(t *testing.T, name string, x impl.Land, base int, way []int, start int, day int, cell int) {
	t.Helper()
	if gotDay, gotCell := impl.MeetDay(x, base, way, start); gotDay != day || gotCell != cell {
		t.Errorf("%s: MeetDay(%s, %d, %v, %d) is %d at %d, not %d at %d", name, showLand(x), base, way, start, gotDay, gotCell, day, cell)
	}
}

func TestSearchArea(t *testing.T) {
	all := []int{0, 1, 2, 3, 4, 5, 8, 9, 10, 11, 12, 13, 14, 15, 17, 18, 19}
	for _, c := range []struct {
		name string
		x    impl.Land
		last int
		days int
		want []int
	}{
		{"no days", camp, 12, 0, []int{12}},
		{"a day", camp, 12, 1, []int{11, 12, 13, 17}},
		{"two days", camp, 12, 2, []int{8, 10, 11, 12, 13, 14, 17, 18}},
		{"as many days as it takes", camp, 0, 7, all},
		{"a day less", camp, 0, 6, []int{0, 1, 2, 3, 4, 5, 8, 9, 10, 11, 12, 13, 14, 15, 17, 18}},
		{"more days than cells", camp, 12, 1000, all},
		{"the greatest int of days", camp, 12, math.MaxInt, all},
		{"days below 0", camp, 12, -1, nil},
		{"the least int of days", camp, 12, math.MinInt, nil},
		{"behind a wall", wall, 0, 99, []int{0, 1, 5, 6, 10, 11}},
		{"amid rocks", diced, 9, 99, []int{9}},
		{"on ice", landOf("i"), 0, 3, []int{0}},
		{"from a rock", camp, 6, 3, nil},
		{"from the only rock", landOf("#"), 0, 3, nil},
		{"from no cell", camp, 20, 3, nil},
		{"from before the first cell", camp, -1, 3, nil},
		{"from the greatest int", camp, math.MaxInt, 3, nil},
		{"from the least int", camp, math.MinInt, 3, nil},
		{"no land", impl.Land{}, 0, 3, nil},
	} {
		checkArea(t, c.name, c.x, c.last, c.days, c.want)
	}
}

func TestSearchAreaIsHeldAgainstDays(t *testing.T) {
	throw := dice()
	for x := range everyLand() {
		all := allDaysOf(x)
		for range 4 {
			last := throw(len(x.Cells)+2) - 1
			for _, days := range []int{-1, 0, 1, 2, 3, throw(40), 1000} {
				checkArea(t, "strewn", x, last, days, searchAreaOf(x, all, last, days))
			}
		}
	}
}

func TestTheSearchAreaHasEveryPlaceWhereThePartyCanBe(t *testing.T) {
	throw := dice()
	walked := 0
	for x := range everyLand() {
		last := throw(len(x.Cells))
		if !isOpenOf(x, last) {
			continue
		}
		at := last
		for days := range 15 {
			area := impl.SearchArea(x, last, days)
			if !slices.Contains(area, at) {
				t.Errorf("in %s, SearchArea(%d, %d) is %v, and the party is at %d", drawingOf(x), last, days, area, at)
			}
			// Who goes out from where the party was comes to all of the area.
			order := impl.SearchOrder(x, last, area)
			place := slices.Index(order, at)
			if place < 0 || impl.IsFound(area, order[:place], at) || !impl.IsFound(area, order[:place+1], at) {
				t.Errorf("in %s, who looks in the order %v does not find the party at %d just there", drawingOf(x), order, at)
			}
			if left := impl.StillIn(area, order); len(left) != 0 {
				t.Errorf("in %s, %v are left of %v", drawingOf(x), left, area)
			}
			next := append(besideOf(x, at), at)
			at = next[throw(len(next))]
			walked++
		}
	}
	if walked < 10000 {
		t.Errorf("there are only %d days", walked)
	}
}

func TestSearchOrder(t *testing.T) {
	for _, c := range []struct {
		name string
		x    impl.Land
		base int
		area []int
		want []int
	}{
		{"ascending", camp, 0, []int{11, 12, 13, 17}, []int{11, 12, 13, 17}},
		{"from the other side", camp, 19, []int{11, 12, 13, 17}, []int{13, 17, 12, 11}},
		{"the nearest one is the greatest", camp, 15, []int{1, 3, 10}, []int{10, 1, 3}},
		{"not ascending", camp, 0, []int{17, 11, 13, 12}, []int{11, 12, 13, 17}},
		{"not ascending, from the other side", camp, 19, []int{12, 17, 11, 13}, []int{13, 17, 12, 11}},
		{"the base in the area", camp, 12, []int{11, 12, 13}, []int{12, 11, 13}},
		{"as far away as one another", plain, 0, []int{16, 9, 2}, []int{2, 9, 16}},
		{"as far away as one another, and others", plain, 0, []int{24, 16, 0, 3, 9, 8, 2, 1}, []int{0, 1, 8, 2, 9, 16, 3, 24}},
		{"as far away as one another on all sides", plain, 27, []int{35, 28, 26, 19}, []int{19, 26, 28, 35}},
		{"longer round a rock than it is apart", gate, 0, []int{2, 8, 3}, []int{3, 8, 2}},
		{"a cell twice", camp, 0, []int{12, 11, 12}, []int{11, 12, 12}},
		{"all cells twice", camp, 19, []int{17, 13, 13, 17}, []int{13, 13, 17, 17}},
		{"one cell", camp, 0, []int{19}, []int{19}},
		{"partly without a way", wall, 0, []int{14, 11, 4, 5, 3}, []int{5, 11}},
		{"partly without a way, from the other side", wall, 4, []int{14, 11, 3, 5, 4}, []int{4, 3, 14}},
		{"wholly without a way", wall, 0, []int{3, 4, 8}, nil},
		{"with rocks", camp, 0, []int{6, 12, 7, 16}, []int{12}},
		{"rocks alone", camp, 0, []int{6, 7, 16}, nil},
		{"with numbers of no cells", camp, 0, []int{20, 12, -1, 63, 64, 65, 100, math.MaxInt, math.MinInt, 10}, []int{10, 12}},
		{"numbers of no cells alone", camp, 0, []int{20, -1, 63, 64, math.MaxInt, math.MinInt}, nil},
		{"the last cell of the greatest land", plain, 0, []int{64, 63, 62}, []int{62, 63}},
		{"nil", camp, 0, nil, nil},
		{"empty", camp, 0, []int{}, nil},
		{"from a rock", camp, 6, []int{0, 6, 12}, nil},
		{"from no cell", camp, 20, []int{0, 12, 20}, nil},
		{"from before the first cell", camp, -1, []int{-1, 0, 12}, nil},
		{"from the greatest int", camp, math.MaxInt, []int{0, 12}, nil},
		{"from the least int", camp, math.MinInt, []int{0, 12}, nil},
		{"no land", impl.Land{}, 0, []int{0, 1}, nil},
	} {
		checkOrder(t, c.name, c.x, c.base, c.area, c.want)
	}
}

func TestSearchOrderInEveryLand(t *testing.T) {
	throw := dice()
	for x := range everyLand() {
		all := allDaysOf(x)
		for range 4 {
			base, area := throw(len(x.Cells)+2)-1, []int{}
			for range throw(20) {
				area = append(area, throw(len(x.Cells)+4)-2)
			}
			checkOrder(t, "strewn", x, base, area, searchOrderOf(x, all, base, area))
		}
	}
}

func TestMeetDay(t *testing.T) {
	home := []int{12, 11, 10, 5, 0}
	away := []int{11, 12, 13, 14}
	past := []int{5, 0, 1, 2, 3}
	for _, c := range []struct {
		name      string
		base      int
		way       []int
		start     int
		day, cell int
	}{
		{"in the middle, on its way home", 0, home, 0, 2, 10},
		{"in the middle, leaving a day later", 0, home, 1, 3, 5},
		{"in the middle, leaving two days later", 0, home, 2, 3, 5},
		{"at the end, as it is at the base", 0, home, 3, 4, 0},
		{"at the end, leaving as it is at the base", 0, home, 4, 4, 0},
		{"at the end, leaving later", 0, home, 5, 5, 0},
		{"at the beginning, from the same cell", 12, home, 0, 0, 12},
		{"at the end, when it was at the same cell a day ago", 12, home, 1, 5, 0},
		{"at the end, where it stays", 0, away, 0, 6, 14},
		{"at the end, where it stays, leaving later", 0, away, 9, 15, 14},
		{"behind it, until it stays", 11, away, 1, 4, 14},
		{"as it turns back", 0, []int{12, 13, 12, 11, 12}, 0, 3, 11},
		{"after it turned back and forth", 0, []int{12, 13, 12, 11, 12}, 1, 5, 12},
		{"as it comes past", 0, past, 0, 1, 0},
		{"as it comes past, just leaving", 0, past, 1, 1, 0},
		{"when it came past a day ago", 0, past, 2, 5, 3},
		{"where it always is", 0, []int{12}, 0, 4, 12},
		{"where it always is, leaving later", 0, []int{12}, 10, 14, 12},
		{"where it always is, the base", 0, []int{0}, 0, 0, 0},
		{"where it always is, the base, leaving later", 0, []int{0}, 5, 5, 0},
		{"leaving on the last day", 0, []int{12}, 100, 104, 12},
		{"leaving on the last day, from the same cell", 12, []int{12}, 100, 100, 12},
		{"leaving on the last day, as it goes to and fro", 0, toAndFro(12, 13, 150), 100, 104, 12},
		{"leaving on the last day, as it goes fro and to", 0, toAndFro(13, 12, 150), 100, 105, 12},
		{"on a way longer than 200 days", 0, toAndFro(12, 13, 300), 99, 104, 12},
		{"leaving too late", 0, []int{12}, 101, -1, -1},
		{"leaving too late, from the same cell", 12, []int{12}, 101, -1, -1},
		{"leaving before the first day", 0, []int{12}, -1, -1, -1},
		{"leaving before the first day, from the same cell", 12, []int{12}, -1, -1, -1},
		{"leaving on the greatest int", 0, []int{12}, math.MaxInt, -1, -1},
		{"leaving on the least int", 0, []int{12}, math.MinInt, -1, -1},
		{"no way, over a rock", 0, []int{12, 11, 16}, 0, -1, -1},
		{"no way, not near", 0, []int{12, 10}, 0, -1, -1},
		{"no way, staying", 0, []int{12, 12}, 0, -1, -1},
		{"no way, from a rock", 0, []int{6}, 0, -1, -1},
		{"no way, to no cell", 0, []int{19, 20}, 0, -1, -1},
		{"no way, at the greatest int", 0, []int{math.MaxInt}, 0, -1, -1},
		{"no way, at the least int", 0, []int{math.MinInt}, 0, -1, -1},
		{"no cells", 0, nil, 0, -1, -1},
		{"no cells, empty", 0, []int{}, 0, -1, -1},
		{"from a rock", 6, home, 0, -1, -1},
		{"from no cell", 20, home, 0, -1, -1},
		{"from before the first cell", -1, home, 0, -1, -1},
		{"from the greatest int", math.MaxInt, home, 0, -1, -1},
		{"from the least int", math.MinInt, home, 0, -1, -1},
	} {
		checkMeeting(t, c.name, camp, c.base, c.way, c.start, c.day, c.cell)
	}
}

func TestNobodyIsMetWithoutAWay(t *testing.T) {
	for start := range 101 {
		for _, way := range [][]int{{3}, {3, 4, 9, 14, 13, 8}, toAndFro(3, 4, 199), toAndFro(3, 4, 201), toAndFro(4, 3, 205), toAndFro(3, 4, 400)} {
			checkMeeting(t, "behind a wall", wall, 0, way, start, -1, -1)
			checkMeeting(t, "behind a wall, from a rock", wall, 2, way, start, -1, -1)
		}
	}
}

// The last days on which parties are met are far before the day 200: no way is
// longer than the days from 100 until then.
func TestTheLastMeetings(t *testing.T) {
	for _, c := range []struct {
		name      string
		x         impl.Land
		base, end int
		days      int
	}{
		{"to and fro", snake, 0, 56, 35},
		{"into a spiral", spiral, 0, 34, 38},
		{"out of a spiral", spiral, 34, 0, 38},
	} {
		for start := range 101 {
			checkMeeting(t, c.name, c.x, c.base, []int{c.end}, start, start+c.days, c.end)
			checkMeeting(t, c.name, c.x, c.base, []int{c.base}, start, start, c.base)
		}
		// It is at the end on the day before they can be there, and comes toward
		// them then.
		way := wayOf(c.x, allDaysOf(c.x), c.end, c.base)
		first, second := way[0], way[1]
		if (99+c.days)%2 == 1 {
			first, second = second, first
		}
		checkMeeting(t, c.name, c.x, c.base, toAndFro(first, second, 300), 100, 100+c.days, way[1])
	}
}

func TestMeetDayInEveryLand(t *testing.T) {
	throw := dice()
	met, missed := 0, 0
	for x := range everyLand() {
		all := allDaysOf(x)
		for range 6 {
			base, from := throw(len(x.Cells)), throw(len(x.Cells))
			way := []int{}
			if isOpenOf(x, from) && throw(12) > 0 {
				way = stroll(throw, x, from, 1+throw(1+throw(250)))
			}
			if throw(12) == 0 {
				way = append(way, throw(len(x.Cells)+2)-1)
			}
			for _, start := range []int{-1, 0, throw(6), throw(101), 100, 101} {
				day, cell := meetDayOf(x, all, base, way, start)
				checkMeeting(t, "strewn", x, base, way, start, day, cell)
				if day >= 0 {
					met++
				} else {
					missed++
				}
			}
		}
	}
	if met < 10000 || missed < 10000 {
		t.Errorf("%d were met and %d were not", met, missed)
	}
}

func TestNoRescueInBadLands(t *testing.T) {
	for _, x := range badLands() {
		for _, n := range []int{0, 1, -1, 63, math.MaxInt} {
			checkArea(t, "bad land", x, n, 3, nil)
			checkOrder(t, "bad land", x, n, []int{0, n, 1, 0}, nil)
			for _, way := range [][]int{nil, {0}, {n}, {0, 1}} {
				checkMeeting(t, "bad land", x, n, way, 0, -1, -1)
			}
		}
	}
}

func TestStillIn(t *testing.T) {
	area := []int{11, 12, 13, 17}
	for _, c := range []struct {
		name     string
		area     []int
		searched []int
		want     []int
	}{
		{"some searched", area, []int{12, 11}, []int{13, 17}},
		{"the first one searched", area, []int{11}, []int{12, 13, 17}},
		{"the last one searched", area, []int{17}, []int{11, 12, 13}},
		{"all searched", area, []int{11, 12, 13, 17}, nil},
		{"all searched, in another order", area, []int{17, 11, 13, 12}, nil},
		{"all searched, and others", area, []int{0, 17, 11, 99, 13, 12, -1}, nil},
		{"none searched", area, []int{10, 14, 18}, area},
		{"none searched, nil", area, nil, area},
		{"none searched, empty", area, []int{}, area},
		{"one searched twice", area, []int{12, 12}, []int{11, 13, 17}},
		{"one in the area twice", []int{12, 11, 12}, []int{11}, []int{12, 12}},
		{"one in the area twice, and searched", []int{12, 11, 12}, []int{12}, []int{11}},
		{"all in the area twice, and searched twice", []int{12, 12}, []int{12, 12}, nil},
		{"an area that descends", []int{17, 13, 12, 11}, []int{13}, []int{17, 12, 11}},
		{"an area in no order", []int{13, 17, 11, 12}, []int{17}, []int{13, 11, 12}},
		{"no area", nil, area, nil},
		{"no area, empty", []int{}, area, nil},
		{"neither", nil, nil, nil},
		{"a cell of 0", []int{0, 1}, []int{1}, []int{0}},
		{"a cell of 0, searched", []int{0, 1}, []int{0}, []int{1}},
		{"the greatest and the least int", []int{math.MinInt, -1, math.MaxInt}, []int{math.MaxInt}, []int{math.MinInt, -1}},
		{"the greatest and the least int, searched", []int{math.MinInt, 5, math.MaxInt}, []int{math.MaxInt, math.MinInt}, []int{5}},
	} {
		if got := impl.StillIn(c.area, c.searched); !slices.Equal(got, c.want) {
			t.Errorf("%s: StillIn(%v, %v) is %v, not %v", c.name, c.area, c.searched, got, c.want)
		}
	}
}

func TestIsFound(t *testing.T) {
	area := []int{11, 12, 13, 17}
	for _, c := range []struct {
		name     string
		area     []int
		searched []int
		at       int
		want     bool
	}{
		{"searched", area, []int{12}, 12, true},
		{"searched, and others before", area, []int{17, 13, 12}, 12, true},
		{"searched, and others behind", area, []int{12, 13}, 12, true},
		{"searched twice", area, []int{12, 12}, 12, true},
		{"searched, the first of the area", area, area, 11, true},
		{"searched, the last of the area", area, area, 17, true},
		{"searched, twice in the area", []int{5, 12, 12}, []int{12}, 12, true},
		{"not searched", area, []int{12}, 11, false},
		{"not searched, as nothing was", area, nil, 11, false},
		{"not searched, empty", area, []int{}, 11, false},
		{"searched, and not in the area", area, []int{12, 3}, 3, false},
		{"searched, and there is no area", nil, []int{12}, 12, false},
		{"searched, and the area is empty", []int{}, []int{12}, 12, false},
		{"in neither", area, []int{12}, 3, false},
		{"in neither of none", nil, nil, 0, false},
		{"a cell of 0", []int{0, 1}, []int{0}, 0, true},
		{"a cell of 0 in neither", area, []int{12}, 0, false},
		{"a number of no cell", []int{-1, 99}, []int{99, -1}, -1, true},
		{"the greatest int", []int{math.MaxInt}, []int{math.MaxInt}, math.MaxInt, true},
		{"the least int", []int{math.MinInt}, []int{math.MinInt}, math.MinInt, true},
		{"the least int in neither", area, area, math.MinInt, false},
	} {
		if got := impl.IsFound(c.area, c.searched, c.at); got != c.want {
			t.Errorf("%s: IsFound(%v, %v, %d) is %v", c.name, c.area, c.searched, c.at, got)
		}
	}
}

func TestWhatIsStillInWasNotFound(t *testing.T) {
	throw := dice()
	for range 3000 {
		area, searched := strewnNumbers(throw, -2, 12), strewnNumbers(throw, -2, 12)
		want := []int{}
		for _, n := range area {
			found := slices.Contains(searched, n)
			if !found {
				want = append(want, n)
			}
			if impl.IsFound(area, searched, n) != found {
				t.Errorf("IsFound(%v, %v, %d) is %v", area, searched, n, !found)
			}
		}
		if got := impl.StillIn(area, searched); !slices.Equal(got, want) {
			t.Errorf("StillIn(%v, %v) is %v, not %v", area, searched, got, want)
		}
	}
}

func TestRescuesKeepTheirArguments(t *testing.T) {
	cells, way := guard(camp.Cells...), guard(12, 11, 10, 5, 0)
	area, searched := guard(17, 11, 13, 12, 11, 20), guard(12, 3, 12)
	x := impl.Land{W: camp.W, H: camp.H, Cells: cells.list}
	for _, n := range []int{0, 12, 6, -1, math.MaxInt} {
		for _, g := range []guarded[int]{cells, way, area, searched} {
			checkOwnMemory(t, "SearchArea", g, func() []int { return impl.SearchArea(x, n, 2) })
			checkOwnMemory(t, "SearchOrder", g, func() []int { return impl.SearchOrder(x, n, g.list) })
			checkOwnMemory(t, "StillIn", g, func() []int { return impl.StillIn(g.list, searched.list) })
			checkOwnMemory(t, "StillIn", g, func() []int { return impl.StillIn(area.list, g.list) })
			checkOwnMemory(t, "StillIn when nothing was searched", g, func() []int { return impl.StillIn(g.list, nil) })
			impl.MeetDay(x, n, g.list, 1)
			impl.IsFound(g.list, searched.list, n)
			impl.IsFound(area.list, g.list, n)
			for _, h := range []guarded[int]{cells, way, area, searched} {
				h.check(t, "the functions of rescue")
			}
		}
	}
}
