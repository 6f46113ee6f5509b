package tests

import (
	"fmt"
	"math"
	"slices"
	"strings"
	"testing"

	"loop.example/g03008/impl"
)

// shownCell is the text of a cell in a valid land, or "?".
func shownCell(x impl.Land, n int) string {
	if text := cellTextOf(x, n); text != "" {
		return text
	}
	return "?"
}

// shownList is the text of a list, each element of which has a text.
func shownList[E any](l []E, text func(E) string) string {
	texts := []string{}
	for _, element := range l {
		texts = append(texts, text(element))
	}
	if len(texts) == 0 {
		return "-"
	}
	return strings.Join(texts, " ")
}

// depotsTextOf is FormatDepots in a valid land.
func depotsTextOf(x impl.Land, l []impl.Depot) string {
	return shownList(l, func(d impl.Depot) string { return fmt.Sprintf("%s:%d", shownCell(x, d.Cell), d.Food) })
}

// journalTextOf is FormatJournal in a valid land.
func journalTextOf(x impl.Land, l []impl.Page) string {
	return shownList(l, func(p impl.Page) string { return fmt.Sprintf("%d@%s=%d", p.Day, shownCell(x, p.Cell), p.Food) })
}

// cellsTextOf is FormatCells in a valid land.
func cellsTextOf(x impl.Land, l []int) string {
	return shownList(l, func(n int) string { return shownCell(x, n) })
}

// trekTextOf is FormatTrek of an expedition with valid depots.
func trekTextOf(t impl.Trek) string {
	laid := 0
	for _, d := range t.Depots {
		laid += d.Food
	}
	return fmt.Sprint(t.Day, t.Given, t.Eaten, t.Party.Food, laid, len(t.Journal))
}

func checkNumbers(t *testing.T, name string, l []int, want string) {
	t.Helper()
	if got := impl.FormatNumbers(l); got != want {
		t.Errorf("%s: FormatNumbers(%s) is %q, not %q", name, brief(l), brief(got), brief(want))
	}
}

func checkDepotsText(t *testing.T, name string, x impl.Land, l []impl.Depot, want string) {
	t.Helper()
	if got := impl.FormatDepots(x, l); got != want {
		t.Errorf("%s: FormatDepots(%s, %s) is %q, not %q", name, showLand(x), brief(l), brief(got), brief(want))
	}
}

func checkJournalText(t *testing.T, name string, x impl.Land, l []impl.Page, want string) {
	t.Helper()
	if got := impl.FormatJournal(x, l); got != want {
		t.Errorf("%s: FormatJournal(%s, %s) is %q, not %q", name, showLand(x), brief(l), brief(got), brief(want))
	}
}

func checkCellsText(t *testing.T, name string, x impl.Land, l []int, want string) {
	t.Helper()
	if got := impl.FormatCells(x, l); got != want {
		t.Errorf("%s: FormatCells(%s, %s) is %q, not %q", name, showLand(x), brief(l), brief(got), brief(want))
	}
}

func checkTrekText(t *testing.T, name string, x impl.Trek, want string) {
	t.Helper()
	if got := impl.FormatTrek(x); got != want {
		t.Errorf("%s: FormatTrek(%s) is %q, not %q", name, brief(x), got, want)
	}
}

func TestFormatNumbers(t *testing.T) {
	for _, c := range []struct {
		name string
		l    []int
		want string
	}{
		{"some", []int{3, 1, 20}, "3 1 20"},
		{"one", []int{17}, "17"},
		{"nothing", []int{0}, "0"},
		{"nothing, twice", []int{0, 0}, "0 0"},
		{"the same again", []int{5, 5, 5}, "5 5 5"},
		{"a negative one", []int{-1}, "-1"},
		{"negative ones", []int{3, -1, -20, 4}, "3 -1 -20 4"},
		{"none", []int{}, "-"},
		{"nil", nil, "-"},
		{"the greatest int", []int{math.MaxInt}, "9223372036854775807"},
		{"the least int", []int{math.MinInt}, "-9223372036854775808"},
		{"the least and the greatest int", []int{math.MinInt, math.MaxInt}, "-9223372036854775808 9223372036854775807"},
		{"powers of ten", []int{10, 100, 1000, 1000000000000}, "10 100 1000 1000000000000"},
		{"very many", slices.Repeat([]int{7}, 20000), strings.Repeat(" 7", 20000)[1:]},
	} {
		checkNumbers(t, c.name, c.l, c.want)
	}
	throw := dice()
	for range 2000 {
		l := []int{}
		for range 1 + throw(9) {
			l = append(l, (throw(1<<30)-1<<29)>>throw(30))
		}
		checkNumbers(t, "strewn", l, strings.Trim(fmt.Sprint(l), "[]"))
	}
}

func TestFormatDepots(t *testing.T) {
	for _, c := range []struct {
		name string
		l    []impl.Depot
		want string
	}{
		{"some", depotsOf([2]int{2, 5}, [2]int{12, 40}), "c0:5 c2:40"},
		{"one", depotsOf([2]int{19, 10000}), "e3:10000"},
		{"one that is unknown", depotsOf([2]int{20, 7}), "?:7"},
		{"known ones and unknown ones", depotsOf([2]int{-1, 1}, [2]int{0, 2}, [2]int{99, 3}, [2]int{5, 4}), "?:1 a0:2 ?:3 a1:4"},
		{"none", []impl.Depot{}, "-"},
		{"nil", nil, "-"},
		{"on a rock", depotsOf([2]int{6, 5}), "b1:5"},
		{"empty", depotsOf([2]int{5, 0}), "a1:0"},
		{"below 0", depotsOf([2]int{5, -3}), "a1:-3"},
		{"too much", depotsOf([2]int{5, 10001}), "a1:10001"},
		{"not in order", depotsOf([2]int{12, 1}, [2]int{5, 1}, [2]int{12, 2}), "c2:1 a1:1 c2:2"},
		{"the zero depot", make([]impl.Depot, 2), "a0:0 a0:0"},
		{"the greatest and the least int", depotsOf([2]int{math.MaxInt, math.MinInt}, [2]int{math.MinInt, math.MaxInt}), "?:-9223372036854775808 ?:9223372036854775807"},
		{"more than twenty", slices.Repeat(depotsOf([2]int{5, 8}), 3000), strings.Repeat(" a1:8", 3000)[1:]},
	} {
		checkDepotsText(t, c.name, camp, c.l, c.want)
	}
	throw := dice()
	for x := range everyLand() {
		l := strewnDepots(throw, x, 2)
		checkDepotsText(t, "strewn", x, l, depotsTextOf(x, l))
		for i := range l {
			if throw(3) == 0 {
				l[i] = impl.Depot{Cell: throw(len(x.Cells)+6) - 3, Food: throw(30) - 10}
			}
		}
		checkDepotsText(t, "strewn", x, l, depotsTextOf(x, l))
	}
}

func TestFormatJournal(t *testing.T) {
	for _, c := range []struct {
		name string
		l    []impl.Page
		want string
	}{
		{"some", trip, "3@c2=40 4@b2=37 9@b2=22 10@a0=30"},
		{"one", trip[:1], "3@c2=40"},
		{"unknown ones", ends, "0@a0=0 1@?=10000 9999@?=9999 10000@?=1"},
		{"one that is unknown", pagesOf([3]int{7, 20, 3}), "7@?=3"},
		{"none", []impl.Page{}, "-"},
		{"nil", nil, "-"},
		{"on a rock", pagesOf([3]int{7, 16, 3}), "7@b3=3"},
		{"seals do not matter", []impl.Page{{Day: 4, Cell: 5, Food: 6, Seal: 7}}, "4@a1=6"},
		{"the zero page", make([]impl.Page, 2), "0@a0=0 0@a0=0"},
		{"no journal", []impl.Page{{Day: 9, Cell: 1, Food: 2}, {Day: -9, Cell: -1, Food: -2}}, "9@b0=2 -9@?=-2"},
		{"the greatest and the least int", []impl.Page{{Day: math.MaxInt, Cell: math.MinInt, Food: math.MaxInt}, {Day: math.MinInt, Cell: math.MaxInt, Food: math.MinInt}}, "9223372036854775807@?=9223372036854775807 -9223372036854775808@?=-9223372036854775808"},
		{"more than a hundred", make([]impl.Page, 3000), strings.Repeat(" 0@a0=0", 3000)[1:]},
	} {
		checkJournalText(t, c.name, camp, c.l, c.want)
	}
	for _, l := range slices.Concat(goodJournals(), badJournals()) {
		for _, x := range []impl.Land{camp, plain, landOf("#")} {
			checkJournalText(t, "journals", x, l, journalTextOf(x, l))
		}
	}
}

func TestFormatCells(t *testing.T) {
	for _, c := range []struct {
		name string
		l    []int
		want string
	}{
		{"some", []int{12, 5, 10}, "c2 a1 a2"},
		{"one", []int{19}, "e3"},
		{"one that is unknown", []int{20}, "?"},
		{"unknown ones", []int{-1, 64, 99}, "? ? ?"},
		{"known ones and unknown ones", []int{0, 20, 4, -1, 15}, "a0 ? e0 ? a3"},
		{"rocks", []int{6, 7, 16}, "b1 c1 b3"},
		{"the same again", []int{3, 3}, "d0 d0"},
		{"none", []int{}, "-"},
		{"nil", nil, "-"},
		{"the greatest and the least int", []int{math.MaxInt, math.MinInt}, "? ?"},
		{"very many", slices.Repeat([]int{1, 20}, 3000), strings.Repeat(" b0 ?", 3000)[1:]},
	} {
		checkCellsText(t, c.name, camp, c.l, c.want)
	}
	throw := dice()
	for x := range everyLand() {
		l := []int{}
		for range throw(9) {
			l = append(l, throw(len(x.Cells)+4)-2)
		}
		checkCellsText(t, "strewn", x, l, cellsTextOf(x, l))
		for _, n := range badCells(len(x.Cells)) {
			checkCellsText(t, "no cell", x, []int{n, 0, n}, "? a0 ?")
		}
	}
}

func TestFormatTrek(t *testing.T) {
	for _, c := range []struct {
		name   string
		change func(t *impl.Trek)
		want   string
	}{
		{"on the way", func(t *impl.Trek) {}, "12 71 36 25 10 4"},
		{"without depots", func(t *impl.Trek) { t.Depots = nil }, "12 71 36 25 0 4"},
		{"without a journal", func(t *impl.Trek) { t.Journal = nil }, "12 71 36 25 10 0"},
		{"with an empty journal", func(t *impl.Trek) { t.Journal = []impl.Page{} }, "12 71 36 25 10 0"},
		{"with a hundred pages", func(t *impl.Trek) { t.Journal, t.Day = hundredPages(100), 5000 }, "5000 71 36 25 10 100"},
		{"without food", func(t *impl.Trek) { t.Party.Food = 0 }, "12 71 36 0 10 4"},
		{"with a depot below 0, counted as 0", func(t *impl.Trek) { t.Depots[0].Food = -4 }, "12 71 36 25 6 4"},
		{"with a depot of too much, counted as the most", func(t *impl.Trek) { t.Depots[1].Food = 10001 }, "12 71 36 25 10004 4"},
		{"not valid", func(t *impl.Trek) { t.Day, t.Given, t.Eaten, t.Party.Food = -1, -2, -3, -4 }, "-1 -2 -3 -4 10 4"},
		{"the greatest and the least int", func(t *impl.Trek) {
			t.Day, t.Given, t.Eaten, t.Party.Food = math.MaxInt, math.MinInt, math.MaxInt, math.MinInt
		}, "9223372036854775807 -9223372036854775808 9223372036854775807 -9223372036854775808 10 4"},
		{"without a land", func(t *impl.Trek) { t.Land = impl.Land{} }, "12 71 36 25 10 4"},
		{"the zero expedition", func(t *impl.Trek) { *t = impl.Trek{} }, "0 0 0 0 0 0"},
	} {
		checkTrekText(t, c.name, changedTrek(c.change), c.want)
	}
	for x := range strewnTreks(3000) {
		checkTrekText(t, "strewn", x, trekTextOf(x))
	}
}

func TestViewsOfHistories(t *testing.T) {
	for x := range histories(60, 50) {
		checkTrekText(t, "at every moment", x, trekTextOf(x))
		checkDepotsText(t, "at every moment", x.Land, x.Depots, depotsTextOf(x.Land, x.Depots))
		checkJournalText(t, "at every moment", x.Land, x.Journal, journalTextOf(x.Land, x.Journal))
	}
}

func TestViewsInBadLands(t *testing.T) {
	for _, x := range badLands() {
		checkDepotsText(t, "bad land", x, depotsOf([2]int{0, 4}, [2]int{1, -5}), "?:4 ?:-5")
		checkDepotsText(t, "bad land", x, nil, "-")
		checkJournalText(t, "bad land", x, trip[:2], "3@?=40 4@?=37")
		checkJournalText(t, "bad land", x, nil, "-")
		checkCellsText(t, "bad land", x, []int{0, 1, -1, math.MinInt}, "? ? ? ?")
		checkCellsText(t, "bad land", x, nil, "-")
	}
	for name, x := range badTreks() {
		laid := impl.TotalFood(x.Depots)
		want := fmt.Sprint(x.Day, x.Given, x.Eaten, x.Party.Food, laid, len(x.Journal))
		checkTrekText(t, name, x, want)
	}
}

func TestViewsKeepTheirArguments(t *testing.T) {
	numbers := guard(3, -1, 64, 12, math.MinInt)
	impl.FormatNumbers(numbers.list)
	impl.FormatNumbers(numbers.list[:0])
	impl.FormatCells(camp, numbers.list)
	numbers.check(t, "FormatNumbers and FormatCells")
	for _, x := range keptTreks() {
		g := guardTrek(x)
		impl.FormatDepots(g.trek.Land, g.trek.Depots)
		impl.FormatJournal(g.trek.Land, g.trek.Journal)
		impl.FormatCells(g.trek.Land, []int{0, 5, 20})
		impl.FormatNumbers(g.trek.Land.Cells)
		impl.FormatTrek(g.trek)
		g.check(t, "the functions of views")
	}
}

func TestViewsKeepNoState(t *testing.T) {
	l := depotsOf([2]int{5, 4})
	first := impl.FormatDepots(camp, l)
	l[0].Food = -7
	second := impl.FormatDepots(camp, l)
	third := impl.FormatDepots(impl.Land{}, l)
	if first != "a1:4" || second != "a1:-7" || third != "?:-7" {
		t.Errorf("while the depot changes, FormatDepots is %q, %q and %q", first, second, third)
	}
}
