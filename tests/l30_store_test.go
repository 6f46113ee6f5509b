package tests

import (
	"math"
	"slices"
	"testing"

	"loop.example/g03008/impl"
)

// stocksOf are stocks, each given as its Thing, its Count and its Out.
func stocksOf(triples ...[3]int) []impl.Stock {
	l := []impl.Stock{}
	for _, s := range triples {
		l = append(l, impl.Stock{Thing: s[0], Count: s[1], Out: s[2]})
	}
	return l
}

// areStocksOf is AreStocks.
func areStocksOf(l []impl.Stock) bool {
	for i, s := range l {
		if s.Thing < 1 || s.Thing > 20 || i > 0 && s.Thing <= l[i-1].Thing || s.Count < 0 || s.Count > 1000 || s.Out < 0 || s.Out > s.Count {
			return false
		}
	}
	return true
}

// stockOf is the stock of a thing, and its place; none if that is not valid.
func stockOf(l []impl.Stock, thing int) (impl.Stock, int) {
	for i, s := range l {
		if areStocksOf(l) && s.Thing == thing {
			return s, i
		}
	}
	return impl.Stock{}, -1
}

func outsOf(l []impl.Stock) int {
	outs := 0
	for _, s := range l {
		outs += s.Out
	}
	return outs
}

func countsOf(l []impl.Stock) int {
	counts := 0
	for _, s := range l {
		counts += s.Count
	}
	return counts
}

// storeChange is what the three functions that change stocks are, and what they
// should do: change both numbers if n is at least 1 and at most a limit.
type storeChange struct {
	name   string
	call   func(l []impl.Stock, thing int, n int) ([]impl.Stock, bool)
	limit  func(s impl.Stock) int
	counts int
	outs   int
}

var storeChanges = []storeChange{
	{"Lend", impl.Lend, func(s impl.Stock) int { return s.Count - s.Out }, 0, 1},
	{"GiveBack", impl.GiveBack, func(s impl.Stock) int { return s.Out }, 0, -1},
	{"Lose", impl.Lose, func(s impl.Stock) int { return s.Out }, -1, -1},
}

// of is what the function should return.
func (c storeChange) of(l []impl.Stock, thing int, n int) ([]impl.Stock, bool) {
	s, place := stockOf(l, thing)
	if place < 0 || n < 1 || n > c.limit(s) {
		return l, false
	}
	stocks := slices.Clone(l)
	stocks[place].Count += c.counts * n
	stocks[place].Out += c.outs * n
	return stocks, true
}

func (c storeChange) check(t *testing.T, name string, l []impl.Stock, thing int, n int, want []impl.Stock, ok bool) {
	t.Helper()
	if got, gotOk := c.call(l, thing, n); gotOk != ok || !slices.Equal(got, want) {
		t.Errorf("%s: %s(%v, %d, %d) is %v and %v, not %v and %v", name, c.name, l, thing, n, got, gotOk, want, ok)
	}
}

// checkChanges checks all three functions against what they should do.
func checkChanges(t *testing.T, name string, l []impl.Stock, thing int, n int) {
	t.Helper()
	for _, c := range storeChanges {
		want, ok := c.of(l, thing, n)
		c.check(t, name, l, thing, n, want, ok)
	}
}

func checkStock(t *testing.T, name string, l []impl.Stock, thing int, in int) {
	t.Helper()
	if got := impl.HasIn(l, thing); got != in {
		t.Errorf("%s: HasIn(%v, %d) is %d, not %d", name, l, thing, got, in)
	}
}

func checkAllOut(t *testing.T, name string, l []impl.Stock, want int) {
	t.Helper()
	if got := impl.AllOut(l); got != want {
		t.Errorf("%s: AllOut(%v) is %d, not %d", name, l, got, want)
	}
}

// The stocks that the tests have.
var (
	tools  = stocksOf([3]int{2, 10, 3}, [3]int{5, 4, 0}, [3]int{6, 7, 7}, [3]int{19, 1, 1})
	utmost = stocksOf([3]int{1, 1000, 999}, [3]int{20, 1000, 1000})
	bare   = stocksOf([3]int{1, 0, 0}, [3]int{20, 0, 0})
	shelf  = manyStocks(20)
)

var namedStocks = [][]impl.Stock{nil, {}, tools, utmost, bare, shelf, stocksOf([3]int{1, 1, 0}), stocksOf([3]int{20, 1, 1}), stocksOf([3]int{7, 0, 0})}

// manyStocks are those of the first so many things.
func manyStocks(count int) []impl.Stock {
	l := []impl.Stock{}
	for thing := 1; thing <= count; thing++ {
		l = append(l, impl.Stock{Thing: thing, Count: 2 * thing, Out: thing})
	}
	return l
}

// strewnStocks are valid ones, of which each thing is there with a chance of one
// in so many.
func strewnStocks(throw func(sides int) int, every int, counts int) []impl.Stock {
	l := []impl.Stock{}
	for thing := 1; thing <= 20; thing++ {
		if throw(every) == 0 {
			count := throw(counts + 1)
			l = append(l, impl.Stock{Thing: thing, Count: count, Out: throw(count + 1)})
		}
	}
	return l
}

// badStocks are not valid, most of them for one reason.
func badStocks() [][]impl.Stock {
	lists := [][]impl.Stock{
		make([]impl.Stock, 1),
		make([]impl.Stock, 20),
		make([]impl.Stock, 5000),
		manyStocks(21),
		manyStocks(40),
		slices.Concat(tools, tools),
		stocksOf([3]int{1, 5, 3}, [3]int{1, 5, 3}),
		stocksOf([3]int{2, 5, 3}, [3]int{1, 5, 3}),
		stocksOf([3]int{1, 5, 3}, [3]int{3, 5, 3}, [3]int{2, 5, 3}),
		stocksOf([3]int{1, 5, 3}, [3]int{3, 5, 3}, [3]int{3, 5, 3}),
		stocksOf([3]int{1, 5, 3}, [3]int{3, 5, 3}, [3]int{1, 5, 3}),
		stocksOf([3]int{20, 5, 3}, [3]int{19, 5, 3}),
		stocksOf([3]int{20, 5, 3}, [3]int{21, 5, 3}),
	}
	for _, good := range [][]impl.Stock{tools, utmost, {{Thing: 7, Count: 5, Out: 2}}} {
		for i := range good {
			for _, spoil := range []func(s *impl.Stock){
				func(s *impl.Stock) { s.Thing = 0 },
				func(s *impl.Stock) { s.Thing = -1 },
				func(s *impl.Stock) { s.Thing = 21 },
				func(s *impl.Stock) { s.Thing = math.MaxInt },
				func(s *impl.Stock) { s.Thing = math.MinInt },
				func(s *impl.Stock) { s.Count = -1 },
				func(s *impl.Stock) { s.Count, s.Out = -1, -1 },
				func(s *impl.Stock) { s.Count = 1001 },
				func(s *impl.Stock) { s.Count = math.MaxInt },
				func(s *impl.Stock) { s.Count = math.MinInt },
				func(s *impl.Stock) { s.Count, s.Out = math.MinInt, math.MinInt },
				func(s *impl.Stock) { s.Out = s.Count + 1 },
				func(s *impl.Stock) { s.Out = -1 },
				func(s *impl.Stock) { s.Out = math.MaxInt },
				func(s *impl.Stock) { s.Out = math.MinInt },
			} {
				l := slices.Clone(good)
				spoil(&l[i])
				lists = append(lists, l)
			}
		}
	}
	return lists
}

func TestAreStocks(t *testing.T) {
	for _, l := range namedStocks {
		if !impl.AreStocks(l) {
			t.Errorf("AreStocks(%v) is false", l)
		}
	}
	for _, l := range badStocks() {
		if areStocksOf(l) {
			t.Errorf("the test itself is wrong: %v", l)
		}
		if impl.AreStocks(l) {
			t.Errorf("AreStocks of %d stocks, %v at first, is true", len(l), l[:min(len(l), 4)])
		}
	}
}

func TestAreStocksOfEachNumber(t *testing.T) {
	for n := -3; n <= 1010; n++ {
		for _, c := range []struct {
			s    impl.Stock
			want bool
		}{
			{impl.Stock{Thing: n, Count: 5, Out: 2}, 1 <= n && n <= 20},
			{impl.Stock{Thing: 3, Count: n, Out: 0}, 0 <= n && n <= 1000},
			{impl.Stock{Thing: 3, Count: n, Out: 2}, 2 <= n && n <= 1000},
			{impl.Stock{Thing: 3, Count: n, Out: n}, 0 <= n && n <= 1000},
			{impl.Stock{Thing: 3, Count: 500, Out: n}, 0 <= n && n <= 500},
		} {
			if got := impl.AreStocks([]impl.Stock{c.s}); got != c.want {
				t.Errorf("AreStocks of %v is %v", c.s, got)
			}
		}
	}
	for a := range 23 {
		for b := range 23 {
			l := stocksOf([3]int{a, 3, 1}, [3]int{b, 4, 2})
			if got := impl.AreStocks(l); got != (1 <= a && a < b && b <= 20) {
				t.Errorf("AreStocks(%v) is %v", l, got)
			}
		}
	}
}

func TestHasInAndAllOut(t *testing.T) {
	for thing, in := range map[int]int{2: 7, 5: 4, 6: 0, 19: 0, 1: 0, 3: 0, 20: 0, 0: 0, -1: 0, 21: 0, math.MaxInt: 0, math.MinInt: 0} {
		checkStock(t, "tools", tools, thing, in)
		checkStock(t, "no stocks", nil, thing, 0)
		checkStock(t, "no stocks, empty", []impl.Stock{}, thing, 0)
	}
	checkStock(t, "the most", utmost, 1, 1)
	checkStock(t, "the most, all of them out", utmost, 20, 0)
	checkStock(t, "as much as there can be", stocksOf([3]int{1, 1000, 0}), 1, 1000)
	checkStock(t, "nothing", bare, 1, 0)
	checkAllOut(t, "tools", tools, 11)
	checkAllOut(t, "the most", utmost, 1999)
	checkAllOut(t, "nothing", bare, 0)
	checkAllOut(t, "all things", shelf, 210)
	checkAllOut(t, "no stocks", nil, 0)
	checkAllOut(t, "no stocks, empty", []impl.Stock{}, 0)
	for _, l := range badStocks() {
		checkAllOut(t, "bad stocks", l, 0)
		for thing := -1; thing <= 22; thing++ {
			checkStock(t, "bad stocks", l, thing, 0)
		}
	}
}

func TestLend(t *testing.T) {
	lend := storeChanges[0]
	for _, c := range []struct {
		name  string
		l     []impl.Stock
		thing int
		n     int
		want  []impl.Stock
		ok    bool
	}{
		{"some", tools, 2, 4, stocksOf([3]int{2, 10, 7}, [3]int{5, 4, 0}, [3]int{6, 7, 7}, [3]int{19, 1, 1}), true},
		{"one", tools, 2, 1, stocksOf([3]int{2, 10, 4}, [3]int{5, 4, 0}, [3]int{6, 7, 7}, [3]int{19, 1, 1}), true},
		{"just what is in", tools, 2, 7, stocksOf([3]int{2, 10, 10}, [3]int{5, 4, 0}, [3]int{6, 7, 7}, [3]int{19, 1, 1}), true},
		{"one more", tools, 2, 8, tools, false},
		{"none", tools, 2, 0, tools, false},
		{"fewer than none", tools, 2, -1, tools, false},
		{"a thing amid others", tools, 5, 4, stocksOf([3]int{2, 10, 3}, [3]int{5, 4, 4}, [3]int{6, 7, 7}, [3]int{19, 1, 1}), true},
		{"a thing of which all are out", tools, 6, 1, tools, false},
		{"the last thing, of which all are out", tools, 19, 1, tools, false},
		{"the last thing", stocksOf([3]int{2, 10, 3}, [3]int{20, 1, 0}), 20, 1, stocksOf([3]int{2, 10, 3}, [3]int{20, 1, 1}), true},
		{"a thing that is none of the stocks", tools, 3, 1, tools, false},
		{"a thing of 0", tools, 0, 1, tools, false},
		{"the greatest int of a thing", tools, math.MaxInt, 1, tools, false},
		{"the least int of a thing", tools, math.MinInt, 1, tools, false},
		{"the greatest int", tools, 2, math.MaxInt, tools, false},
		{"the least int", tools, 2, math.MinInt, tools, false},
		{"as many as there can be", stocksOf([3]int{1, 1000, 0}), 1, 1000, stocksOf([3]int{1, 1000, 1000}), true},
		{"one more than there can be", stocksOf([3]int{1, 1000, 0}), 1, 1001, stocksOf([3]int{1, 1000, 0}), false},
		{"of nothing", bare, 1, 1, bare, false},
		{"of no stocks", nil, 1, 1, nil, false},
		{"of no stocks, empty", []impl.Stock{}, 0, 0, nil, false},
		{"of a thing that is there twice", stocksOf([3]int{1, 5, 3}, [3]int{1, 5, 3}), 1, 1, stocksOf([3]int{1, 5, 3}, [3]int{1, 5, 3}), false},
		{"of a thing of 0", stocksOf([3]int{0, 5, 3}), 0, 1, stocksOf([3]int{0, 5, 3}), false},
		{"beside a stock that is not valid", stocksOf([3]int{1, 5, 3}, [3]int{2, 5, 6}), 1, 1, stocksOf([3]int{1, 5, 3}, [3]int{2, 5, 6}), false},
	} {
		lend.check(t, c.name, c.l, c.thing, c.n, c.want, c.ok)
	}
}

func TestGiveBackAndLose(t *testing.T) {
	give, lose := storeChanges[1], storeChanges[2]
	for _, c := range []struct {
		name     string
		l        []impl.Stock
		thing    int
		n        int
		ok       bool
		place    int
		outAfter int
	}{
		{"some", tools, 6, 4, true, 2, 3},
		{"one", tools, 2, 1, true, 0, 2},
		{"just what is out", tools, 2, 3, true, 0, 0},
		{"just what is out, all there is", tools, 6, 7, true, 2, 0},
		{"one more than is out", tools, 2, 4, false, 0, 3},
		{"what is in", tools, 2, 7, false, 0, 3},
		{"none", tools, 2, 0, false, 0, 3},
		{"fewer than none", tools, 2, -1, false, 0, 3},
		{"of a thing of which none is out", tools, 5, 1, false, 1, 0},
		{"of the last thing", tools, 19, 1, true, 3, 0},
		{"of the last thing, one more than is out", tools, 19, 2, false, 3, 1},
		{"of a thing that is none of the stocks", tools, 3, 1, false, 0, 3},
		{"of a thing of 0", tools, 0, 1, false, 0, 3},
		{"the greatest int", tools, 2, math.MaxInt, false, 0, 3},
		{"the least int", tools, 2, math.MinInt, false, 0, 3},
		{"the greatest int of a thing", tools, math.MaxInt, 1, false, 0, 3},
		{"the least int of a thing", tools, math.MinInt, 1, false, 0, 3},
		{"as many as there can be", utmost, 20, 1000, true, 1, 0},
		{"one more than there can be", utmost, 20, 1001, false, 1, 1000},
		{"of nothing", bare, 1, 1, false, 0, 0},
		{"of two stocks of a thing", stocksOf([3]int{1, 5, 3}, [3]int{1, 5, 3}), 1, 1, false, 0, 3},
		{"beside a stock that is not valid", stocksOf([3]int{1, 5, 3}, [3]int{2, 5, 6}), 1, 1, false, 0, 3},
	} {
		given, lost := slices.Clone(c.l), slices.Clone(c.l)
		given[c.place].Out, lost[c.place].Out = c.outAfter, c.outAfter
		lost[c.place].Count -= c.l[c.place].Out - c.outAfter
		give.check(t, c.name, c.l, c.thing, c.n, given, c.ok)
		lose.check(t, c.name, c.l, c.thing, c.n, lost, c.ok)
	}
	for _, l := range [][]impl.Stock{nil, {}} {
		for n := -1; n <= 2; n++ {
			give.check(t, "no stocks", l, 1, n, nil, false)
			lose.check(t, "no stocks", l, 1, n, nil, false)
			give.check(t, "no stocks", l, 0, n, nil, false)
			lose.check(t, "no stocks", l, 0, n, nil, false)
		}
	}
}

// fewStocks are all lists of up to two stocks with small numbers, valid and not.
func fewStocks() [][]impl.Stock {
	singles := []impl.Stock{}
	for thing := range 3 {
		for count := range 3 {
			for out := -1; out <= 3; out++ {
				singles = append(singles, impl.Stock{Thing: thing, Count: count, Out: out})
			}
		}
	}
	lists := [][]impl.Stock{}
	for _, a := range singles {
		lists = append(lists, []impl.Stock{a})
		for _, b := range singles {
			lists = append(lists, []impl.Stock{a, b})
		}
	}
	return lists
}

func TestStoresOfFewStocks(t *testing.T) {
	valid := 0
	for _, l := range fewStocks() {
		if got := impl.AreStocks(l); got != areStocksOf(l) {
			t.Errorf("AreStocks(%v) is %v", l, got)
		}
		outs := 0
		if areStocksOf(l) {
			valid++
			outs = outsOf(l)
		}
		checkAllOut(t, "few", l, outs)
		for thing := range 4 {
			s, _ := stockOf(l, thing)
			checkStock(t, "few", l, thing, s.Count-s.Out)
			for n := -1; n <= 3; n++ {
				checkChanges(t, "few", l, thing, n)
			}
		}
	}
	if valid < 40 {
		t.Errorf("only %d lists are valid", valid)
	}
}

func TestWhatIsLentComesBackOrIsLost(t *testing.T) {
	throw := dice()
	lent := 0
	for range 3000 {
		l := strewnStocks(throw, 1+throw(5), []int{3, 30, 1000}[throw(3)])
		thing := 1 + throw(20)
		s, place := stockOf(l, thing)
		n := 1 + throw(s.Count+1)
		out, ok := impl.Lend(l, thing, n)
		if ok != (place >= 0 && n <= s.Count-s.Out) {
			t.Errorf("Lend(%v, %d, %d) is %v", l, thing, n, ok)
		}
		if !ok {
			continue
		}
		lent++
		if impl.AllOut(out) != impl.AllOut(l)+n || impl.HasIn(out, thing) != impl.HasIn(l, thing)-n || countsOf(out) != countsOf(l) {
			t.Errorf("of %v, %d of %d are lent, which gives %v", l, n, thing, out)
		}
		back, ok := impl.GiveBack(out, thing, n)
		if !ok || !slices.Equal(back, l) {
			t.Errorf("of %v, %d of %d come back, which gives %v and %v", out, n, thing, back, ok)
		}
		gone, ok := impl.Lose(out, thing, n)
		if !ok || !impl.AreStocks(gone) || impl.AllOut(gone) != impl.AllOut(l) || impl.HasIn(gone, thing) != impl.HasIn(out, thing) || countsOf(gone) != countsOf(l)-n {
			t.Errorf("of %v, %d of %d are lost, which gives %v and %v", out, n, thing, gone, ok)
		}
	}
	if lent < 500 {
		t.Errorf("only %d times was something lent", lent)
	}
}

func TestManyChangesOfAStore(t *testing.T) {
	throw := dice()
	changes := map[string]int{}
	for range 60 {
		l := strewnStocks(throw, 2, 40)
		for range 120 {
			c := storeChanges[throw(3)]
			thing, n := throw(22), throw(12)-1
			if len(l) > 0 && throw(4) > 0 {
				thing = l[throw(len(l))].Thing
			}
			want, ok := c.of(l, thing, n)
			c.check(t, "strewn", l, thing, n, want, ok)
			l, _ = c.call(l, thing, n)
			if !impl.AreStocks(l) || impl.AllOut(l) != outsOf(l) {
				t.Fatalf("%s gives %v", c.name, l)
			}
			if ok {
				changes[c.name]++
			}
		}
	}
	if changes["Lend"] < 300 || changes["GiveBack"] < 300 || changes["Lose"] < 300 {
		t.Errorf("the changes are %v", changes)
	}
}

func TestNothingIsLentFromBadStocks(t *testing.T) {
	for _, l := range badStocks() {
		for thing := -1; thing <= 22; thing++ {
			for _, n := range []int{1, 0, -1, 2} {
				for _, c := range storeChanges {
					c.check(t, "bad stocks", l, thing, n, l, false)
				}
			}
		}
		for _, s := range l[:min(len(l), 4)] {
			for _, n := range []int{1, s.Out, s.Count, s.Count - s.Out, math.MaxInt, math.MinInt} {
				if len(l) > 100 && n > 1 {
					continue
				}
				for _, c := range storeChanges {
					c.check(t, "bad stocks", l, s.Thing, n, l, false)
				}
			}
		}
	}
}

func TestStocksStayAsTheyWere(t *testing.T) {
	for _, stocks := range append(badStocks()[:1], append(badStocks()[4:], namedStocks...)...) {
		l := guard(stocks...)
		for _, c := range storeChanges {
			for _, thing := range []int{0, 1, 2, 6, 19, 20} {
				for _, n := range []int{-1, 0, 1, 3, 900} {
					checkOwnMemory(t, c.name, l, func() []impl.Stock {
						changed, _ := c.call(l.list, thing, n)
						return changed
					})
				}
			}
		}
		impl.AreStocks(l.list)
		impl.HasIn(l.list, 2)
		impl.AllOut(l.list)
		l.check(t, "the functions of stocks")
	}
}

func TestStocksKeepNoState(t *testing.T) {
	l := slices.Clone(tools)
	first := impl.HasIn(l, 2)
	l[0].Out = 9
	second := impl.HasIn(l, 2)
	l[0].Thing = 6
	third := impl.HasIn(l, 2)
	if first != 7 || second != 1 || third != 0 {
		t.Errorf("while the stocks change, HasIn is %d, %d and %d", first, second, third)
	}
}
