package tests

import (
	"math"
	"slices"
	"testing"

	"loop.example/g03008/impl"
)

// pagesOf are pages with the seals that they should have, each given as its day,
// its cell and its food.
func pagesOf(entries ...[3]int) []impl.Page {
	l := []impl.Page{}
	for _, e := range entries {
		l = append(l, impl.Page{Day: e[0], Cell: e[1], Food: e[2]})
	}
	return sealed(l)
}

// sealed are the pages with the seals that they should have.
func sealed(l []impl.Page) []impl.Page {
	pages, before := slices.Clone(l), 0
	for i := range pages {
		pages[i].Seal = hashOf(before, pages[i].Day, pages[i].Cell, pages[i].Food)
		before = pages[i].Seal
	}
	return pages
}

// hasPageFields tells whether each page is valid beside its seal, and behind the
// day of the one before.
func hasPageFields(l []impl.Page) bool {
	for i, p := range l {
		if p.Day < 0 || p.Day > 10000 || p.Cell < 0 || p.Cell > 63 || p.Food < 0 || p.Food > 10000 || i > 0 && p.Day <= l[i-1].Day {
			return false
		}
	}
	return len(l) <= 100
}

// isJournalOf is IsJournal.
func isJournalOf(l []impl.Page) bool {
	return hasPageFields(l) && slices.Equal(l, sealed(l))
}

// cellOnOf is CellOn of a journal.
func cellOnOf(l []impl.Page, day int) int {
	cell := -1
	for _, p := range l {
		if p.Day <= day {
			cell = p.Cell
		}
	}
	return cell
}

// The journals that the tests have.
var (
	trip = pagesOf([3]int{3, 12, 40}, [3]int{4, 11, 37}, [3]int{9, 11, 22}, [3]int{10, 0, 30})
	ends = pagesOf([3]int{0, 0, 0}, [3]int{1, 63, 10000}, [3]int{9999, 62, 9999}, [3]int{10000, 63, 1})
)

// strewnPages are a journal of so many pages.
func strewnPages(throw func(sides int) int, count int) []impl.Page {
	l, day := []impl.Page{}, throw(5)
	for range count {
		l = append(l, impl.Page{Day: day, Cell: throw(64), Food: throw(10001)})
		day += 1 + throw(90)
	}
	return sealed(l)
}

// goodJournals are of every length.
func goodJournals() [][]impl.Page {
	throw := dice()
	journals := [][]impl.Page{trip, ends}
	for count := range 101 {
		journals = append(journals, strewnPages(throw, count))
	}
	return journals
}

// pageChanges each change one field of a page.
var pageChanges = []func(p *impl.Page){
	func(p *impl.Page) { p.Day++ },
	func(p *impl.Page) { p.Day-- },
	func(p *impl.Page) { p.Cell++ },
	func(p *impl.Page) { p.Cell-- },
	func(p *impl.Page) { p.Food++ },
	func(p *impl.Page) { p.Food-- },
	func(p *impl.Page) { p.Seal++ },
	func(p *impl.Page) { p.Seal-- },
	func(p *impl.Page) { p.Seal += impl.Modulus },
	func(p *impl.Page) { p.Seal = -p.Seal },
	func(p *impl.Page) { p.Seal = 0 },
}

// badPageFields each give a page a field that it may not have, wherever it is.
var badPageFields = []func(p *impl.Page){
	func(p *impl.Page) { p.Day = -1 },
	func(p *impl.Page) { p.Day = 10001 },
	func(p *impl.Page) { p.Day = math.MaxInt },
	func(p *impl.Page) { p.Day = math.MinInt },
	func(p *impl.Page) { p.Cell = -1 },
	func(p *impl.Page) { p.Cell = 64 },
	func(p *impl.Page) { p.Cell = math.MaxInt },
	func(p *impl.Page) { p.Cell = math.MinInt },
	func(p *impl.Page) { p.Food = -1 },
	func(p *impl.Page) { p.Food = 10001 },
	func(p *impl.Page) { p.Food = math.MaxInt },
	func(p *impl.Page) { p.Food = math.MinInt },
}

// changedPages are the journal with one of its pages changed.
func changedPages(l []impl.Page, at int, change func(p *impl.Page)) []impl.Page {
	pages := slices.Clone(l)
	change(&pages[at])
	return pages
}

// badJournals are not valid, most of them for one reason.
func badJournals() [][]impl.Page {
	journals := [][]impl.Page{
		make([]impl.Page, 1),
		{trip[0], trip[0]},
		{trip[1]},
		trip[1:],
		{trip[0], trip[2]},
		{trip[0], trip[1], trip[3]},
		{trip[1], trip[0], trip[2]},
		{trip[0], trip[2], trip[1]},
		slices.Concat(trip, trip),
		slices.Concat(trip, ends),
		pagesOf([3]int{3, 1, 1}, [3]int{3, 1, 1}),
		pagesOf([3]int{3, 1, 1}, [3]int{3, 2, 0}),
		pagesOf([3]int{3, 1, 1}, [3]int{2, 1, 1}),
		pagesOf([3]int{0, 1, 1}, [3]int{0, 1, 1}),
		pagesOf([3]int{0, 1, 1}, [3]int{1, 1, 1}, [3]int{1, 1, 1}),
		pagesOf([3]int{0, 1, 1}, [3]int{5, 1, 1}, [3]int{4, 1, 1}),
		pagesOf([3]int{0, 1, 1}, [3]int{5, 1, 1}, [3]int{3, 1, 1}, [3]int{6, 1, 1}),
		strewnPages(dice(), 101),
		strewnPages(dice(), 110),
		make([]impl.Page, 5000),
	}
	for _, good := range [][]impl.Page{trip[:1], trip, ends} {
		for at := range good {
			for _, change := range pageChanges {
				journals = append(journals, changedPages(good, at, change))
			}
			for _, spoil := range badPageFields {
				journals = append(journals, changedPages(good, at, spoil), sealed(changedPages(good, at, spoil)))
			}
		}
	}
	return journals
}

func checkWrite(t *testing.T, name string, l []impl.Page, p impl.Page, ok bool) {
	t.Helper()
	want := l
	if ok {
		want = append(slices.Clone(l), p)
		want = sealed(want)
	}
	if got, gotOk := impl.WritePage(l, p.Day, p.Cell, p.Food); gotOk != ok || !slices.Equal(got, want) {
		t.Errorf("%s: WritePage(%v, %d, %d, %d) is %v and %v, not %v and %v", name, l, p.Day, p.Cell, p.Food, got, gotOk, want, ok)
	}
}

func checkCell(t *testing.T, name string, l []impl.Page, day int, want int) {
	t.Helper()
	if got := impl.CellOn(l, day); got != want {
		t.Errorf("%s: CellOn(%v, %d) is %d, not %d", name, l, day, got, want)
	}
}

func checkSame(t *testing.T, name string, a []impl.Page, b []impl.Page, want int) {
	t.Helper()
	for _, pair := range [][2][]impl.Page{{a, b}, {b, a}} {
		if got := impl.SamePages(pair[0], pair[1]); got != want {
			t.Errorf("%s: SamePages(%v, %v) is %d, not %d", name, pair[0], pair[1], got, want)
		}
	}
}

func checkEaten(t *testing.T, name string, l []impl.Page, i int, k int, want int) {
	t.Helper()
	if got := impl.EatenBetween(l, i, k); got != want {
		t.Errorf("%s: EatenBetween(%v, %d, %d) is %d, not %d", name, l, i, k, got, want)
	}
}

func TestSealsAreWrittenOut(t *testing.T) {
	l, _ := impl.WritePage(nil, 3, 12, 40)
	l, _ = impl.WritePage(l, 4, 11, 37)
	want := []impl.Page{{Day: 3, Cell: 12, Food: 40, Seal: 450113726}, {Day: 4, Cell: 11, Food: 37, Seal: 1683907637}}
	if !slices.Equal(l, want) || !slices.Equal(l, trip[:2]) {
		t.Errorf("the pages are %v, not %v", l, want)
	}
}

func TestIsJournal(t *testing.T) {
	for _, l := range append(goodJournals(), nil, []impl.Page{}) {
		if !impl.IsJournal(l) {
			t.Errorf("IsJournal(%v) is false", l)
		}
		for count := range l {
			if !impl.IsJournal(l[:count]) {
				t.Errorf("IsJournal of %d pages of %v is false", count, l)
			}
			if count > 0 && impl.IsJournal(l[count:]) {
				t.Errorf("IsJournal of %v from the page %d on is true", l, count)
			}
		}
	}
	for _, l := range badJournals() {
		if impl.IsJournal(l) {
			t.Errorf("IsJournal of %d pages, %v at first, is true", len(l), l[:min(len(l), 5)])
		}
	}
}

func TestWhatIsChangedAfterwardsIsSeen(t *testing.T) {
	for _, l := range goodJournals() {
		if len(l) == 0 {
			continue
		}
		for _, at := range []int{0, len(l) / 2, len(l) - 1} {
			for _, change := range pageChanges {
				pages := changedPages(l, at, change)
				if slices.Equal(pages, l) {
					continue
				}
				if impl.IsJournal(pages) {
					t.Errorf("the page %d of %v is changed, and IsJournal is true", at, pages)
				}
				// The seal of the page alone does not make up for that, if there
				// is a page behind.
				pages[at].Seal = sealed(pages)[at].Seal
				if got := impl.IsJournal(pages); got != isJournalOf(pages) || got && at < len(l)-1 && pages[at] != l[at] {
					t.Errorf("the page %d of %v is changed and sealed, and IsJournal is %v", at, pages, got)
				}
				pages = sealed(pages)
				if got := impl.IsJournal(pages); got != hasPageFields(pages) {
					t.Errorf("all of %v is sealed, and IsJournal is %v", pages, got)
				}
			}
		}
	}
}

func TestWritePage(t *testing.T) {
	page := func(day int, cell int, food int) impl.Page { return impl.Page{Day: day, Cell: cell, Food: food} }
	for _, c := range []struct {
		name string
		l    []impl.Page
		p    impl.Page
		ok   bool
	}{
		{"the first page", nil, page(3, 12, 40), true},
		{"the first page, of an empty list", []impl.Page{}, page(3, 12, 40), true},
		{"the next day", trip, page(11, 5, 27), true},
		{"days later", trip, page(500, 0, 30), true},
		{"with more food", trip, page(11, 0, 31), true},
		{"the same day", trip, page(10, 5, 27), false},
		{"the same day, the same cell and food", trip, page(10, 0, 30), false},
		{"a day before", trip, page(9, 5, 27), false},
		{"a day before the first page", trip, page(2, 5, 27), false},
		{"the first day", nil, page(0, 5, 27), true},
		{"before the first day", nil, page(-1, 5, 27), false},
		{"the last day", trip, page(10000, 5, 27), true},
		{"the last day, the first page", nil, page(10000, 5, 27), true},
		{"behind the last day", trip, page(10001, 5, 27), false},
		{"behind the last day, the first page", nil, page(10001, 5, 27), false},
		{"behind a page of the last day", ends, page(10000, 5, 27), false},
		{"a day behind a page of the last day", ends, page(10001, 5, 27), false},
		{"the least cell", trip, page(11, 0, 27), true},
		{"below the least cell", trip, page(11, -1, 27), false},
		{"the greatest cell", trip, page(11, 63, 27), true},
		{"beyond the greatest cell", trip, page(11, 64, 27), false},
		{"no food", trip, page(11, 5, 0), true},
		{"less than no food", trip, page(11, 5, -1), false},
		{"the most food", trip, page(11, 5, 10000), true},
		{"more than the most food", trip, page(11, 5, 10001), false},
		{"the greatest int of a day", trip, page(math.MaxInt, 5, 27), false},
		{"the least int of a day", trip, page(math.MinInt, 5, 27), false},
		{"the greatest int of a cell", trip, page(11, math.MaxInt, 27), false},
		{"the least int of a cell", trip, page(11, math.MinInt, 27), false},
		{"the greatest int of food", trip, page(11, 5, math.MaxInt), false},
		{"the least int of food", trip, page(11, 5, math.MinInt), false},
		{"the greatest ints", nil, page(math.MaxInt, math.MaxInt, math.MaxInt), false},
		{"the least ints", nil, page(math.MinInt, math.MinInt, math.MinInt), false},
	} {
		checkWrite(t, c.name, c.l, c.p, c.ok)
	}
	for _, l := range badJournals() {
		checkWrite(t, "no journal", l, page(9000, 5, 27), false)
		checkWrite(t, "no journal", l, page(10000, 5, 27), false)
	}
}

func TestAHundredPages(t *testing.T) {
	l := []impl.Page{}
	for day := range 103 {
		next, ok := impl.WritePage(l, day, day%64, day)
		if ok != (day < 100) || impl.IsJournal(next) == false || len(next) != min(day+1, 100) {
			t.Fatalf("WritePage on the day %d gives %d pages and %v", day, len(next), ok)
		}
		if !slices.Equal(next[:len(l)], l) {
			t.Fatalf("WritePage changes %v to %v", l, next)
		}
		l = next
	}
	if !isJournalOf(l) || l[99].Day != 99 {
		t.Errorf("the journal is %v", l)
	}
}

func TestCellOn(t *testing.T) {
	for day, want := range map[int]int{math.MinInt: -1, -1: -1, 0: -1, 2: -1, 3: 12, 4: 11, 5: 11, 8: 11, 9: 11, 10: 0, 11: 0, 10000: 0, 10001: 0, math.MaxInt: 0} {
		checkCell(t, "trip", trip, day, want)
	}
	for day, want := range map[int]int{math.MinInt: -1, -1: -1, 0: 0, 1: 63, 2: 63, 9998: 63, 9999: 62, 10000: 63, 10001: 63, math.MaxInt: 63} {
		checkCell(t, "ends", ends, day, want)
	}
	for _, day := range []int{math.MinInt, -1, 0, 1, 3, 50, 10000, math.MaxInt} {
		checkCell(t, "no pages", nil, day, -1)
		checkCell(t, "no pages", []impl.Page{}, day, -1)
		for _, l := range badJournals() {
			checkCell(t, "no journal", l, day, -1)
		}
	}
	for _, l := range goodJournals() {
		for _, p := range l {
			for day := p.Day - 1; day <= p.Day+1; day++ {
				checkCell(t, "each page", l, day, cellOnOf(l, day))
			}
		}
	}
}

func TestSamePages(t *testing.T) {
	other := append(slices.Clone(trip[:2]), pagesOf([3]int{3, 12, 40}, [3]int{4, 11, 37}, [3]int{9, 11, 21}, [3]int{10, 0, 30})[2:]...)
	sealsOf := func(seals ...int) []impl.Page {
		l := []impl.Page{}
		for i, seal := range seals {
			l = append(l, impl.Page{Day: 7 - i, Seal: seal})
		}
		return l
	}
	for _, c := range []struct {
		name string
		a, b []impl.Page
		want int
	}{
		{"the same journal", trip, slices.Clone(trip), 4},
		{"different in the third page", trip, other, 2},
		{"different in the last page", trip, sealed(changedPages(trip, 3, func(p *impl.Page) { p.Cell = 1 })), 3},
		{"different in the first page", trip, sealed(changedPages(trip, 0, func(p *impl.Page) { p.Food = 41 })), 0},
		{"different lengths", trip, trip[:3], 3},
		{"different lengths, one page", trip, trip[:1], 1},
		{"different lengths, and different in a page before", other, trip[:3], 2},
		{"two journals", trip, ends, 0},
		{"no pages", trip, nil, 0},
		{"no pages, empty", trip, []impl.Page{}, 0},
		{"neither has pages", nil, []impl.Page{}, 0},
		{"no pages at all", nil, nil, 0},
		{"no journals, the same seals", sealsOf(5, 6, 7), []impl.Page{{Seal: 5}, {Seal: 6, Food: -1}, {Seal: 7, Cell: 99}}, 3},
		{"no journals, the same seals at first", sealsOf(5, 6, 7), sealsOf(5, 6, 8), 2},
		{"no journals, the same seals at last", sealsOf(5, 6, 7), sealsOf(4, 6, 7), 0},
		{"no journals, the same seals but one", sealsOf(5, 6, 7, 8), sealsOf(5, 9, 7, 8), 1},
		{"no journals, the same pages but for the seals", sealsOf(1, 2), sealsOf(3, 4), 0},
		{"no journals, seals of 0", make([]impl.Page, 3), make([]impl.Page, 5), 3},
		{"no journals, the greatest and the least int", sealsOf(math.MaxInt, math.MinInt), sealsOf(math.MaxInt, math.MinInt, 0), 2},
		{"no journals, far too long", make([]impl.Page, 3000), make([]impl.Page, 2000), 2000},
	} {
		checkSame(t, c.name, c.a, c.b, c.want)
	}
}

func TestJournalsTellWhereTheyDiffer(t *testing.T) {
	throw := dice()
	for range 2000 {
		l := strewnPages(throw, 1+throw(12))
		at := throw(len(l))
		change := pageChanges[throw(6)]
		pages := sealed(changedPages(l, at, change))
		if !hasPageFields(pages) {
			continue
		}
		checkSame(t, "a page is changed", l, pages, at)
		// As each seal depends on the one before, no page behind it is the same.
		for i := at; i < len(l); i++ {
			if l[i].Seal == pages[i].Seal {
				t.Errorf("the page %d of %v is changed, and the seal %d is the same", at, l, i)
			}
		}
		a, b := l[:throw(len(l)+1)], pages[:throw(len(l)+1)]
		checkSame(t, "a page is changed, and others are left out", a, b, min(at, len(a), len(b)))
		checkSame(t, "others are left out", a, l, len(a))
	}
}

// Seals can be the same by chance, though the pages are not; what counts is the
// Seal.
func TestPagesOfTheSameSeal(t *testing.T) {
	one, two := pagesOf([3]int{0, 10, 1000}, [3]int{5000, 1, 1}), pagesOf([3]int{4769, 0, 653}, [3]int{5000, 1, 1})
	if one[0].Seal != two[0].Seal || !impl.IsJournal(one) || !impl.IsJournal(two) {
		t.Fatalf("%v and %v are not two journals of the same seals", one, two)
	}
	checkSame(t, "the same seals", one, two, 2)
}

func TestEatenBetween(t *testing.T) {
	for _, c := range []struct {
		name string
		l    []impl.Page
		i, k int
		want int
	}{
		{"two pages", trip, 0, 2, 18},
		{"two pages in the other order", trip, 2, 0, -18},
		{"two pages, one after the other", trip, 1, 2, 15},
		{"the first and the last", trip, 0, 3, 10},
		{"food that is more later on", trip, 2, 3, -8},
		{"food that is more later on, in the other order", trip, 3, 2, 8},
		{"the same page", trip, 1, 1, 0},
		{"from no food to the most", ends, 0, 1, -10000},
		{"from the most food to none", ends, 1, 0, 10000},
		{"the only page", trip[:1], 0, 0, 0},
		{"k behind the last page", trip, 0, 4, 0},
		{"i behind the last page", trip, 4, 0, 0},
		{"i before the first page", trip, -1, 0, 0},
		{"k before the first page", trip, 0, -1, 0},
		{"both are none", trip, -1, 4, 0},
		{"the greatest int", trip, 0, math.MaxInt, 0},
		{"the least int", trip, math.MinInt, 0, 0},
		{"no pages", nil, 0, 0, 0},
		{"no pages, empty", []impl.Page{}, 0, 0, 0},
	} {
		checkEaten(t, c.name, c.l, c.i, c.k, c.want)
	}
	for _, l := range goodJournals() {
		for i := -1; i <= len(l); i += 1 + len(l)/9 {
			for k := -1; k <= len(l); k++ {
				want := 0
				if i >= 0 && k >= 0 && i < len(l) && k < len(l) {
					want = l[i].Food - l[k].Food
				}
				checkEaten(t, "each page", l, i, k, want)
			}
		}
	}
	for _, l := range badJournals() {
		for i := range min(len(l), 5) {
			checkEaten(t, "no journal", l, i, 0, 0)
			checkEaten(t, "no journal", l, 0, i, 0)
		}
	}
}

func TestJournalsStayAsTheyWere(t *testing.T) {
	for _, pages := range append(badJournals(), nil, trip, ends, strewnPages(dice(), 99), strewnPages(dice(), 100)) {
		l, other := guard(pages...), guard(trip...)
		for _, day := range []int{-1, 3, 9000, 10000} {
			checkOwnMemory(t, "WritePage", l, func() []impl.Page {
				written, _ := impl.WritePage(l.list, day, 5, 27)
				return written
			})
			impl.CellOn(l.list, day)
		}
		impl.IsJournal(l.list)
		impl.SamePages(l.list, other.list)
		impl.SamePages(other.list, l.list)
		impl.EatenBetween(l.list, 0, 1)
		l.check(t, "the functions of journals")
		other.check(t, "SamePages")
	}
}

func TestJournalsKeepNoState(t *testing.T) {
	l := slices.Clone(trip[:2])
	first, _ := impl.WritePage(l, 9, 11, 22)
	l[1].Food++
	second, ok := impl.WritePage(l, 9, 11, 22)
	third, _ := impl.WritePage(sealed(l), 9, 11, 22)
	if !slices.Equal(first, trip[:3]) || ok || len(second) != 2 || len(third) != 3 || third[2].Seal == first[2].Seal {
		t.Errorf("while a page changes, WritePage gives %v, %v and %v", first, second, third)
	}
}
