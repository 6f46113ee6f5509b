package tests

import (
	"iter"
	"math"
	"slices"
	"testing"

	"loop.example/g03008/impl"
)

// placeOf is the index of the depot at a cell among valid ones, or the one that
// a new depot there gets; and whether there is one.
func placeOf(l []impl.Depot, cell int) (int, bool) {
	for i, d := range l {
		if d.Cell >= cell {
			return i, d.Cell == cell
		}
	}
	return len(l), false
}

// layOf is Lay in a valid land, told by a list.
func layOf(x impl.Land, l []impl.Depot, cell int, n int) ([]impl.Depot, bool) {
	if n < 1 || n > 10000 || !areDepotsOf(x, l) {
		return l, false
	}
	laid := slices.Clone(l)
	place, found := placeOf(l, cell)
	if !found {
		laid = slices.Insert(laid, place, impl.Depot{Cell: cell})
	}
	laid[place].Food += n
	if !areDepotsOf(x, laid) {
		return l, false
	}
	return laid, true
}

// takeOf is Take in a valid land, told by a list.
func takeOf(x impl.Land, l []impl.Depot, cell int, n int) ([]impl.Depot, bool) {
	place, found := placeOf(l, cell)
	if n < 1 || !areDepotsOf(x, l) || !found || n > l[place].Food {
		return l, false
	}
	left := slices.Clone(l)
	left[place].Food -= n
	if left[place].Food == 0 {
		left = slices.Delete(left, place, place+1)
	}
	return left, true
}

// shortLists are the lists of up to so many depots at these cells with these
// foods, valid or not.
func shortLists(most int, cells []int, foods []int) iter.Seq[[]impl.Depot] {
	return func(yield func([]impl.Depot) bool) {
		lists := [][]impl.Depot{{}}
		for len(lists) > 0 {
			l := lists[0]
			lists = lists[1:]
			if !yield(l) {
				return
			}
			for i := 0; i < len(cells)*len(foods) && len(l) < most; i++ {
				d := impl.Depot{Cell: cells[i%len(cells)], Food: foods[i/len(cells)]}
				lists = append(lists, append(slices.Clone(l), d))
			}
		}
	}
}

// edgeFoods are the numbers at which something changes.
var edgeFoods = []int{math.MinInt, math.MinInt + 1, -10001, -10000, -1, 0, 1, 2, 9999, 10000, 10001, 20000, 1 << 32, math.MaxInt - 1, math.MaxInt}

// A row of depots in a land of 64 cells, as many as there may be.
var manyDepots = depotsOf([2]int{1, 1}, [2]int{3, 2}, [2]int{5, 3}, [2]int{7, 4}, [2]int{9, 5}, [2]int{11, 6}, [2]int{13, 7}, [2]int{15, 8}, [2]int{17, 9}, [2]int{19, 10}, [2]int{21, 100}, [2]int{23, 9999}, [2]int{25, 10000}, [2]int{27, 1}, [2]int{29, 1}, [2]int{31, 1}, [2]int{33, 1}, [2]int{35, 1}, [2]int{37, 1}, [2]int{62, 10000})

func TestAreDepots(t *testing.T) {
	cases := []struct {
		name string
		x    impl.Land
		l    []impl.Depot
		want bool
	}{
		{"none", camp, nil, true},
		{"none, an empty list", camp, []impl.Depot{}, true},
		{"none, where nothing is open", rocks, nil, true},
		{"one", camp, depotsOf([2]int{2, 5}), true},
		{"one on ice", camp, depotsOf([2]int{8, 5}), true},
		{"one unit", camp, depotsOf([2]int{2, 1}), true},
		{"as much as may be", camp, depotsOf([2]int{2, 10000}), true},
		{"at the first cell and the last", camp, depotsOf([2]int{0, 3}, [2]int{19, 4}), true},
		{"cells one after the other", camp, depotsOf([2]int{0, 3}, [2]int{1, 3}, [2]int{2, 3}, [2]int{3, 3}), true},
		{"20", plain, manyDepots, true},
		{"21", plain, append(slices.Clone(manyDepots), impl.Depot{Cell: 63, Food: 1}), false},
		{"on a rock", camp, depotsOf([2]int{6, 1}), false},
		{"on a rock behind others", camp, depotsOf([2]int{2, 1}, [2]int{3, 1}, [2]int{16, 1}), false},
		{"nothing", camp, depotsOf([2]int{2, 0}), false},
		{"nothing behind others", camp, depotsOf([2]int{2, 5}, [2]int{3, 0}), false},
		{"less than nothing", camp, depotsOf([2]int{2, -1}), false},
		{"one too many", camp, depotsOf([2]int{2, 10001}), false},
		{"one too many before others", camp, depotsOf([2]int{2, 10001}, [2]int{3, 1}), false},
		{"a cell twice", camp, depotsOf([2]int{2, 5}, [2]int{2, 5}), false},
		{"cells that descend", camp, depotsOf([2]int{3, 5}, [2]int{2, 5}), false},
		{"cells that descend behind others", camp, depotsOf([2]int{2, 5}, [2]int{4, 5}, [2]int{3, 5}), false},
		{"a cell twice, not one after the other", camp, depotsOf([2]int{2, 5}, [2]int{4, 5}, [2]int{2, 5}), false},
		{"before the first cell", camp, depotsOf([2]int{-1, 5}), false},
		{"behind the last cell", camp, depotsOf([2]int{20, 5}), false},
		{"no land", impl.Land{}, nil, false},
		{"no land, one depot", impl.Land{}, depotsOf([2]int{0, 1}), false},
	}
	for _, c := range cases {
		if got := impl.AreDepots(c.x, c.l); got != c.want {
			t.Errorf("%s: AreDepots(%s, %v) is %v", c.name, drawingOf(c.x), c.l, got)
		}
	}
}

func TestAreDepotsOfEachNumber(t *testing.T) {
	for _, x := range drawnLands {
		for n := -5; n <= len(x.Cells)+5; n++ {
			l := depotsOf([2]int{n, 5})
			if got, want := impl.AreDepots(x, l), areDepotsOf(x, l); got != want {
				t.Errorf("AreDepots(%s, %v) is %v", drawingOf(x), l, got)
			}
		}
		for _, n := range badCells(len(x.Cells)) {
			if impl.AreDepots(x, depotsOf([2]int{n, 5})) {
				t.Errorf("AreDepots(%s) with one at %d is true", drawingOf(x), n)
			}
		}
	}
	for _, food := range edgeFoods {
		for i := range 3 {
			l := depotsOf([2]int{2, 5}, [2]int{8, 5}, [2]int{15, 5})
			l[i].Food = food
			if got := impl.AreDepots(camp, l); got != (1 <= food && food <= 10000) {
				t.Errorf("AreDepots(%v) is %v", l, got)
			}
		}
	}
	for count := range 65 {
		l := []impl.Depot{}
		for n := range count {
			l = append(l, impl.Depot{Cell: n, Food: 1})
		}
		if got := impl.AreDepots(plain, l); got != (count <= 20) {
			t.Errorf("AreDepots of %d is %v", count, got)
		}
	}
}

func TestDepotsOfEveryShortList(t *testing.T) {
	for _, x := range []impl.Land{landOf(".i", "#."), landOf("..."), landOf("#.")} {
		size := len(x.Cells)
		for l := range shortLists(3, []int{-1, 0, 1, 2, 3, 4}, []int{0, 1, 5, 10000, 10001}) {
			if got, want := impl.AreDepots(x, l), areDepotsOf(x, l); got != want {
				t.Errorf("AreDepots(%s, %v) is %v", drawingOf(x), l, got)
			}
			if len(l) < 3 {
				for cell := -1; cell <= size; cell++ {
					checkLayAndTake(t, x, l, cell, -1, 0, 1, 4, 5, 6, 9995, 9999, 10000, 10001)
				}
			}
		}
		for l := range shortLists(3, []int{0, 1, 2, 3}, []int{1, 9999}) {
			for cell := range size {
				checkLayAndTake(t, x, l, cell, 1, 2)
			}
		}
	}
}

// checkLayAndTake takes a valid land.
func checkLayAndTake(t *testing.T, x impl.Land, l []impl.Depot, cell int, counts ...int) {
	t.Helper()
	for _, n := range counts {
		want, wantOk := layOf(x, l, cell, n)
		if got, ok := impl.Lay(x, l, cell, n); ok != wantOk || !slices.Equal(got, want) {
			t.Errorf("Lay(%s, %v, %d, %d) is %v and %v, not %v and %v", drawingOf(x), l, cell, n, got, ok, want, wantOk)
		}
		want, wantOk = takeOf(x, l, cell, n)
		if got, ok := impl.Take(x, l, cell, n); ok != wantOk || !slices.Equal(got, want) {
			t.Errorf("Take(%s, %v, %d, %d) is %v and %v, not %v and %v", drawingOf(x), l, cell, n, got, ok, want, wantOk)
		}
	}
}

func TestFoodAt(t *testing.T) {
	cases := []struct {
		name string
		l    []impl.Depot
		cell int
		want int
	}{
		{"the only one", depotsOf([2]int{2, 5}), 2, 5},
		{"the first one", depotsOf([2]int{2, 5}, [2]int{8, 12}), 2, 5},
		{"the last one", depotsOf([2]int{2, 5}, [2]int{8, 12}), 8, 12},
		{"at the first cell", depotsOf([2]int{0, 7}), 0, 7},
		{"none between", depotsOf([2]int{2, 5}, [2]int{8, 12}), 3, 0},
		{"none before", depotsOf([2]int{2, 5}), 1, 0},
		{"none behind", depotsOf([2]int{2, 5}), 3, 0},
		{"a place and no cell", depotsOf([2]int{2, 5}, [2]int{8, 12}), 1, 0},
		{"a food and no cell", depotsOf([2]int{2, 5}), 5, 0},
		{"no depots", nil, 0, 0},
		{"of several, the first one", depotsOf([2]int{2, 5}, [2]int{3, 1}, [2]int{2, 9}), 2, 5},
		{"of several, the first one, which is less", depotsOf([2]int{2, 1}, [2]int{2, 9}, [2]int{2, 4}), 2, 1},
		{"of several, the first one, which is empty", depotsOf([2]int{2, 0}, [2]int{2, 9}), 2, 0},
		{"cells that descend", depotsOf([2]int{9, 1}, [2]int{5, 2}, [2]int{3, 3}), 3, 3},
		{"less than nothing", depotsOf([2]int{2, -4}), 2, -4},
		{"more than may be", depotsOf([2]int{2, 10001}), 2, 10001},
		{"the greatest int", depotsOf([2]int{2, math.MaxInt}), 2, math.MaxInt},
		{"the least int", depotsOf([2]int{2, math.MinInt}), 2, math.MinInt},
		{"a negative cell", depotsOf([2]int{-2, 5}), -2, 5},
		{"the greatest int as a cell", depotsOf([2]int{0, 1}, [2]int{math.MaxInt, 6}), math.MaxInt, 6},
		{"the least int as a cell", depotsOf([2]int{0, 1}, [2]int{math.MinInt, 6}), math.MinInt, 6},
		{"more depots than may be", append(slices.Clone(manyDepots), manyDepots...), 62, 10000},
	}
	for _, c := range cases {
		if got := impl.FoodAt(c.l, c.cell); got != c.want {
			t.Errorf("%s: FoodAt(%v, %d) is %d, not %d", c.name, c.l, c.cell, got, c.want)
		}
	}
	for l := range shortLists(3, []int{-1, 0, 7}, []int{-5, 0, 3, 20000}) {
		for cell := -3; cell < 10; cell++ {
			want := 0
			if place := slices.IndexFunc(l, func(d impl.Depot) bool { return d.Cell == cell }); place >= 0 {
				want = l[place].Food
			}
			if got := impl.FoodAt(l, cell); got != want {
				t.Errorf("FoodAt(%v, %d) is %d, not %d", l, cell, got, want)
			}
		}
	}
}

// depotCase is what Lay or Take is given in the camp, and what it returns.
type depotCase struct {
	name    string
	l       []impl.Depot
	cell, n int
	want    []impl.Depot
	ok      bool
}

type depotChange func(x impl.Land, l []impl.Depot, cell int, n int) ([]impl.Depot, bool)

func checkDepotCases(t *testing.T, name string, change depotChange, cases []depotCase) {
	t.Helper()
	for _, c := range cases {
		if got, ok := change(camp, c.l, c.cell, c.n); ok != c.ok || !slices.Equal(got, c.want) {
			t.Errorf("%s: %s(%v, %d, %d) is %v and %v", c.name, name, c.l, c.cell, c.n, got, ok)
		}
	}
}

func TestLay(t *testing.T) {
	two := depotsOf([2]int{2, 5}, [2]int{8, 12})
	checkDepotCases(t, "Lay", impl.Lay, []depotCase{
		{"the first of all", nil, 8, 12, depotsOf([2]int{8, 12}), true},
		{"one unit", nil, 8, 1, depotsOf([2]int{8, 1}), true},
		{"as much as may be", nil, 8, 10000, depotsOf([2]int{8, 10000}), true},
		{"before the others", two, 0, 3, depotsOf([2]int{0, 3}, [2]int{2, 5}, [2]int{8, 12}), true},
		{"just before the first", two, 1, 3, depotsOf([2]int{1, 3}, [2]int{2, 5}, [2]int{8, 12}), true},
		{"between", two, 5, 3, depotsOf([2]int{2, 5}, [2]int{5, 3}, [2]int{8, 12}), true},
		{"behind the others", two, 19, 3, depotsOf([2]int{2, 5}, [2]int{8, 12}, [2]int{19, 3}), true},
		{"to the first one", two, 2, 3, depotsOf([2]int{2, 8}, [2]int{8, 12}), true},
		{"to the last one", two, 8, 3, depotsOf([2]int{2, 5}, [2]int{8, 15}), true},
		{"to one, as much as may be", two, 2, 9995, depotsOf([2]int{2, 10000}, [2]int{8, 12}), true},
		{"to one, one too many", two, 2, 9996, two, false},
		{"to one, very much", two, 2, 10000, two, false},
		{"nothing", two, 2, 0, two, false},
		{"nothing, at a new one", two, 3, 0, two, false},
		{"less than nothing", two, 8, -1, two, false},
		{"less than nothing, at a new one", two, 3, -1, two, false},
		{"one too many", two, 3, 10001, two, false},
		{"the greatest int", two, 2, math.MaxInt, two, false},
		{"the least int", two, 2, math.MinInt, two, false},
		{"on a rock", two, 6, 3, two, false},
		{"before the first cell", two, -1, 3, two, false},
		{"behind the last cell", two, 20, 3, two, false},
		{"to cells that descend", depotsOf([2]int{8, 12}, [2]int{2, 5}), 3, 3, depotsOf([2]int{8, 12}, [2]int{2, 5}), false},
		{"to a cell that is there twice", depotsOf([2]int{2, 5}, [2]int{2, 12}), 2, 3, depotsOf([2]int{2, 5}, [2]int{2, 12}), false},
		{"to an empty one, which is not valid", depotsOf([2]int{2, 0}), 2, 3, depotsOf([2]int{2, 0}), false},
		{"to one on a rock", depotsOf([2]int{6, 4}), 2, 3, depotsOf([2]int{6, 4}), false},
	})
}

func TestTake(t *testing.T) {
	two := depotsOf([2]int{2, 5}, [2]int{8, 12})
	checkDepotCases(t, "Take", impl.Take, []depotCase{
		{"a part of the first one", two, 2, 3, depotsOf([2]int{2, 2}, [2]int{8, 12}), true},
		{"a part of the last one", two, 8, 11, depotsOf([2]int{2, 5}, [2]int{8, 1}), true},
		{"one unit", two, 8, 1, depotsOf([2]int{2, 5}, [2]int{8, 11}), true},
		{"all of the first one", two, 2, 5, depotsOf([2]int{8, 12}), true},
		{"all of the last one", two, 8, 12, depotsOf([2]int{2, 5}), true},
		{"all there is", depotsOf([2]int{8, 12}), 8, 12, nil, true},
		{"one unit, all there is", depotsOf([2]int{0, 1}), 0, 1, nil, true},
		{"as much as may be", depotsOf([2]int{19, 10000}), 19, 10000, nil, true},
		{"one between", depotsOf([2]int{2, 5}, [2]int{4, 7}, [2]int{8, 12}), 4, 7, two, true},
		{"one unit too many", two, 8, 13, two, false},
		{"nothing", two, 8, 0, two, false},
		{"less than nothing", two, 8, -1, two, false},
		{"where there is none", two, 3, 1, two, false},
		{"nothing where there is none", two, 3, 0, two, false},
		{"from no depots", nil, 3, 1, nil, false},
		{"on a rock", two, 6, 1, two, false},
		{"before the first cell", two, -1, 1, two, false},
		{"behind the last cell", two, 20, 1, two, false},
		{"the greatest int", two, 2, math.MaxInt, two, false},
		{"the least int", two, 2, math.MinInt, two, false},
		{"from cells that descend", depotsOf([2]int{8, 12}, [2]int{2, 5}), 2, 3, depotsOf([2]int{8, 12}, [2]int{2, 5}), false},
		{"from a cell that is there twice", depotsOf([2]int{2, 5}, [2]int{2, 5}), 2, 5, depotsOf([2]int{2, 5}, [2]int{2, 5}), false},
		{"from one with too much", depotsOf([2]int{2, 10001}), 2, 1, depotsOf([2]int{2, 10001}), false},
		{"beside an empty one", depotsOf([2]int{2, 5}, [2]int{3, 0}), 2, 1, depotsOf([2]int{2, 5}, [2]int{3, 0}), false},
		{"from one on a rock", depotsOf([2]int{6, 4}), 6, 4, depotsOf([2]int{6, 4}), false},
	})
}

func TestTwentyDepots(t *testing.T) {
	for _, cell := range []int{0, 2, 38, 63} {
		if got, ok := impl.Lay(plain, manyDepots, cell, 1); ok || !slices.Equal(got, manyDepots) {
			t.Errorf("Lay of a new one at %d beside 20 is %v and %v", cell, got, ok)
		}
	}
	for i, d := range manyDepots {
		checkLayAndTake(t, plain, manyDepots, d.Cell, 1, d.Food, d.Food+1, 9999, 10000)
		fewer := slices.Delete(slices.Clone(manyDepots), i, i+1)
		for cell := range 64 {
			checkLayAndTake(t, plain, fewer, cell, 1, 10000)
		}
		if got, ok := impl.Lay(plain, fewer, d.Cell, d.Food); !ok || !slices.Equal(got, manyDepots) {
			t.Errorf("Lay of the twentieth at %d is %v and %v", d.Cell, got, ok)
		}
	}
}

func TestLayAndTakeInEveryLand(t *testing.T) {
	throw := dice()
	for x := range everyLand() {
		for _, every := range []int{1, 2, 6} {
			l := strewnDepots(throw, x, every)
			if !impl.AreDepots(x, l) {
				t.Errorf("in %s, %v are depots", drawingOf(x), l)
			}
			cell := throw(len(x.Cells))
			checkLayAndTake(t, x, l, cell, edgeFoods...)
			checkLayAndTake(t, x, l, cell, impl.FoodAt(l, cell), impl.FoodAt(l, cell)+1, 10000-impl.FoodAt(l, cell), 10001-impl.FoodAt(l, cell))
		}
	}
}

func TestWhatIsLaidCanBeTaken(t *testing.T) {
	throw := dice()
	laid, taken := 0, 0
	for x := range everyLand() {
		l := strewnDepots(throw, x, 3)
		for range 6 {
			cell, n := throw(len(x.Cells)), 1+throw(6000)
			if with, ok := impl.Lay(x, l, cell, n); ok {
				laid++
				checkFood(t, x, l, with, cell, n)
				if back, ok := impl.Take(x, with, cell, n); !ok || !slices.Equal(back, l) {
					t.Errorf("in %s, %d laid at %d beside %v and taken again leaves %v", drawingOf(x), n, cell, l, back)
				}
			}
			n = 1 + throw(impl.FoodAt(l, cell)+1)
			if without, ok := impl.Take(x, l, cell, n); ok {
				taken++
				checkFood(t, x, without, l, cell, n)
				if back, ok := impl.Lay(x, without, cell, n); !ok || !slices.Equal(back, l) {
					t.Errorf("in %s, %d taken at %d from %v and laid again leaves %v", drawingOf(x), n, cell, l, back)
				}
			}
		}
	}
	if laid < 1000 || taken < 1000 {
		t.Errorf("food was laid only %d times and taken %d times", laid, taken)
	}
}

// checkFood checks two lists of valid depots of which the second one has n more
// at one cell.
func checkFood(t *testing.T, x impl.Land, less []impl.Depot, more []impl.Depot, cell int, n int) {
	t.Helper()
	if got := impl.TotalFood(more) - impl.TotalFood(less); got != n {
		t.Errorf("%v have %d more than %v, not %d", more, got, less, n)
	}
	for other := range x.Cells {
		want := 0
		if other == cell {
			want = n
		}
		if got := impl.FoodAt(more, other) - impl.FoodAt(less, other); got != want {
			t.Errorf("at %d, %v have %d more than %v, not %d", other, more, got, less, want)
		}
	}
}

func TestTotalFood(t *testing.T) {
	cases := []struct {
		name string
		l    []impl.Depot
		want int
	}{
		{"none", nil, 0},
		{"one", depotsOf([2]int{3, 7}), 7},
		{"two", depotsOf([2]int{3, 7}, [2]int{5, 20}), 27},
		{"20", manyDepots, 30160},
		{"as much as may be", depotsOf([2]int{3, 10000}, [2]int{4, 10000}), 20000},
		{"one too many", depotsOf([2]int{3, 10001}, [2]int{4, 1}), 10001},
		{"less than nothing", depotsOf([2]int{3, -1}, [2]int{4, 6}), 6},
		{"nothing", depotsOf([2]int{3, 0}, [2]int{4, 0}), 0},
		{"far too many, and far too few", depotsOf([2]int{3, -5}, [2]int{4, 20000}), 10000},
		{"the greatest ints", depotsOf([2]int{3, math.MaxInt}, [2]int{4, math.MaxInt}), 20000},
		{"the least ints", depotsOf([2]int{3, math.MinInt}, [2]int{4, math.MinInt}), 0},
		{"both", depotsOf([2]int{3, math.MinInt}, [2]int{4, 9}, [2]int{5, math.MaxInt}), 10009},
		{"a cell twice", depotsOf([2]int{3, 5}, [2]int{3, 6}, [2]int{3, 5}), 16},
		{"cells that descend", depotsOf([2]int{9, 5}, [2]int{3, 6}), 11},
		{"cells that are none", depotsOf([2]int{-9, 5}, [2]int{1000, 6}), 11},
		{"more than there may be", append(slices.Clone(manyDepots), manyDepots...), 60320},
	}
	for _, c := range cases {
		if got := impl.TotalFood(c.l); got != c.want {
			t.Errorf("%s: TotalFood(%v) is %d, not %d", c.name, c.l, got, c.want)
		}
	}
	for l := range shortLists(3, []int{0, 1}, edgeFoods) {
		want := 0
		for _, d := range l {
			want += min(max(d.Food, 0), 10000)
		}
		if got := impl.TotalFood(l); got != want {
			t.Errorf("TotalFood(%v) is %d, not %d", l, got, want)
		}
	}
}

func TestNoDepotsInBadLands(t *testing.T) {
	for _, x := range badLands() {
		for _, l := range [][]impl.Depot{nil, {}, depotsOf([2]int{0, 5}), depotsOf([2]int{1, 5}, [2]int{2, 7})} {
			if impl.AreDepots(x, l) {
				t.Errorf("AreDepots(%.80v, %v) is true", x, l)
			}
			for _, cell := range []int{0, 1, 2, 3, -1, len(x.Cells), math.MaxInt, math.MinInt} {
				for _, n := range []int{1, 5, 0} {
					if got, ok := impl.Lay(x, l, cell, n); ok || !slices.Equal(got, l) {
						t.Errorf("Lay(%.80v, %v, %d, %d) is %v and %v", x, l, cell, n, got, ok)
					}
					if got, ok := impl.Take(x, l, cell, n); ok || !slices.Equal(got, l) {
						t.Errorf("Take(%.80v, %v, %d, %d) is %v and %v", x, l, cell, n, got, ok)
					}
				}
			}
		}
	}
}

func TestNoDepotsAtNoCells(t *testing.T) {
	for _, x := range drawnLands {
		l := strewnDepots(dice(), x, 2)
		for _, cell := range badCells(len(x.Cells)) {
			checkLayAndTake(t, x, l, cell, edgeFoods...)
			if _, ok := impl.Lay(x, l, cell, 1); ok {
				t.Errorf("Lay(%s, %v, %d, 1) succeeds", drawingOf(x), l, cell)
			}
			checkLayAndTake(t, x, append(slices.Clone(l), impl.Depot{Cell: cell, Food: 9}), cell, 1, 9)
		}
	}
}

func TestDepotsStayAsTheyWere(t *testing.T) {
	cells := guard(camp.Cells...)
	x := impl.Land{W: camp.W, H: camp.H, Cells: cells.list}
	lists := [][]impl.Depot{nil, depotsOf([2]int{2, 1}), depotsOf([2]int{2, 5}, [2]int{8, 12}, [2]int{15, 10000}), depotsOf([2]int{8, 1}, [2]int{2, 1}), depotsOf([2]int{6, 1}), depotsOf([2]int{2, 0})}
	for _, list := range lists {
		l := guard(list...)
		for _, cell := range []int{0, 2, 6, 8, 15, 19, 20, -1} {
			for _, n := range []int{0, 1, 5, 12, 9999, 10000, -1} {
				checkOwnMemory(t, "Lay", l, func() []impl.Depot {
					laid, _ := impl.Lay(x, l.list, cell, n)
					return laid
				})
				checkOwnMemory(t, "Take", l, func() []impl.Depot {
					left, _ := impl.Take(x, l.list, cell, n)
					return left
				})
			}
			impl.FoodAt(l.list, cell)
		}
		impl.AreDepots(x, l.list)
		impl.TotalFood(l.list)
		l.check(t, "the functions of depots")
		cells.check(t, "the land")
	}
}

func TestDepotsKeepNoState(t *testing.T) {
	x := landOf("...", "...")
	l := depotsOf([2]int{1, 5})
	first, _ := impl.Lay(x, l, 2, 7)
	l[0] = impl.Depot{Cell: 0, Food: 8}
	second, _ := impl.Lay(x, l, 2, 7)
	x.Cells[2] = impl.LdRock
	third, ok := impl.Lay(x, l, 2, 7)
	if !slices.Equal(first, depotsOf([2]int{1, 5}, [2]int{2, 7})) || !slices.Equal(second, depotsOf([2]int{0, 8}, [2]int{2, 7})) || ok || !slices.Equal(third, l) {
		t.Errorf("while the depots and the land change, Lay gives %v, %v and %v", first, second, third)
	}
}
