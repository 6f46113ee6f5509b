package tests

import (
	"iter"
	"math"
	"slices"
	"testing"

	"loop.example/g03008/impl"
)

// trekOf is an expedition in a scene, with what was eaten so far, and all else
// as it should be.
func trekOf(s scene, day int, eaten int, journal []impl.Page) impl.Trek {
	t := impl.Trek{Land: s.x, Base: s.base, Rule: s.r, Depots: s.l, Party: s.p, Journal: journal, Day: day, Eaten: eaten}
	t.Given = eaten + s.p.Food
	for _, d := range s.l {
		t.Given += d.Food
	}
	return t
}

// sceneOf is the scene of an expedition.
func sceneOf(t impl.Trek) scene {
	return scene{x: t.Land, base: t.Base, r: t.Rule, l: t.Depots, p: t.Party}
}

// isTrekOf is IsTrek in a valid land.
func isTrekOf(t impl.Trek) bool {
	left := t.Party.Food
	for _, d := range t.Depots {
		left += d.Food
	}
	lastDay := 0
	for _, p := range t.Journal {
		lastDay = p.Day
	}
	return sceneOf(t).leftOf() >= 0 && keepsOf(t.Rule, t.Party.Past) && isJournalOf(t.Journal) && lastDay <= t.Day &&
		0 <= t.Day && t.Day <= 5000 && 0 <= t.Given && t.Given <= 1000000 && 0 <= t.Eaten && t.Eaten <= 1000000 && t.Given-t.Eaten == left
}

// trekLike is a copy that shares no memory.
func trekLike(t impl.Trek) impl.Trek {
	t.Land.Cells = slices.Clone(t.Land.Cells)
	t.Depots = slices.Clone(t.Depots)
	t.Party.Crew, t.Party.Past = slices.Clone(t.Party.Crew), slices.Clone(t.Party.Past)
	t.Journal = slices.Clone(t.Journal)
	return t
}

// sameTrek tells all fields of two expeditions apart.
func sameTrek(a impl.Trek, b impl.Trek) bool {
	return a.Land.W == b.Land.W && a.Land.H == b.Land.H && slices.Equal(a.Land.Cells, b.Land.Cells) &&
		a.Base == b.Base && a.Rule == b.Rule && slices.Equal(a.Depots, b.Depots) && sameParty(a.Party, b.Party) &&
		slices.Equal(a.Journal, b.Journal) && a.Day == b.Day && a.Given == b.Given && a.Eaten == b.Eaten
}

// onTheWay is in the middle of its history, on the cell 12 of the camp, which is
// six days from the base in the worst weather. It needs 18 of its 25 of food.
func onTheWay() impl.Trek {
	s := campScene(12, 25, "s..", [2]int{5, 4}, [2]int{10, 6})
	return trekLike(trekOf(s, 12, 36, trip))
}

// changedTrek is onTheWay with something changed.
func changedTrek(change func(t *impl.Trek)) impl.Trek {
	t := onTheWay()
	change(&t)
	return t
}

func checkIsTrek(t *testing.T, name string, x impl.Trek, want bool) {
	t.Helper()
	if got := impl.IsTrek(x); got != want {
		t.Errorf("%s: IsTrek(%.300v) is %v", name, x, got)
	}
}

func checkNew(t *testing.T, name string, x impl.Land, base int, r impl.Rule, crew []impl.Member, ok bool) {
	t.Helper()
	want := impl.Trek{}
	if ok {
		want = impl.Trek{Land: x, Base: base, Rule: r, Party: impl.Party{At: base, Crew: crew}}
	}
	got, gotOk := impl.NewTrek(x, base, r, crew)
	if gotOk != ok || !sameTrek(got, want) {
		t.Errorf("%s: NewTrek(%s, %d, %v, %v) is %.300v and %v", name, showLand(x), base, r, crew, got, gotOk)
	}
	if ok && (!impl.IsTrek(got) || !impl.AtBase(got) || !impl.CanReturnNow(got)) {
		t.Errorf("%s: the new expedition %v is not valid, or not at its base", name, got)
	}
}

func TestNewTrek(t *testing.T) {
	for _, c := range []struct {
		name string
		x    impl.Land
		base int
		r    impl.Rule
		crew []impl.Member
		ok   bool
	}{
		{"in the camp", camp, 0, oneInThree, pair, true},
		{"in the camp, at another base", camp, 12, oneInThree, pair, true},
		{"on ice", camp, 8, oneInThree, pair, true},
		{"at the last cell", camp, 19, nineInTen, full, true},
		{"without storms", camp, 0, calm, strong, true},
		{"with all ill", camp, 0, oneInThree, sick, true},
		{"with a crew that can carry nothing", camp, 0, oneInThree, weak, true},
		{"on a single cell", landOf("i"), 0, oneInThree, pair, true},
		{"on a single rock", landOf("#"), 0, oneInThree, pair, false},
		{"on a rock", camp, 6, oneInThree, pair, false},
		{"behind the last cell", camp, 20, oneInThree, pair, false},
		{"before the first cell", camp, -1, oneInThree, pair, false},
		{"at the greatest int", camp, math.MaxInt, oneInThree, pair, false},
		{"at the least int", camp, math.MinInt, oneInThree, pair, false},
		{"without a land", impl.Land{}, 0, oneInThree, pair, false},
		{"without a rule", camp, 0, impl.Rule{}, pair, false},
		{"without a crew", camp, 0, oneInThree, nil, false},
		{"with an empty crew", camp, 0, oneInThree, []impl.Member{}, false},
		{"with a crew that is not in order", camp, 0, oneInThree, []impl.Member{well(2, 5, 1), well(1, 5, 1)}, false},
		{"with nothing", impl.Land{}, 0, impl.Rule{}, nil, false},
	} {
		checkNew(t, c.name, c.x, c.base, c.r, c.crew, c.ok)
	}
}

func TestANewExpeditionIsAtItsBase(t *testing.T) {
	throw := dice()
	rules, crews := allRules(), goodCrews()
	for x := range everyLand() {
		for n := range x.Cells {
			checkNew(t, "each cell", x, n, rules[throw(len(rules))], crews[throw(len(crews))], x.Cells[n] != impl.LdRock)
		}
		for _, n := range badCells(len(x.Cells)) {
			checkNew(t, "no cell", x, n, oneInThree, pair, false)
		}
	}
	for _, r := range rules {
		for _, crew := range crews[:40] {
			checkNew(t, "each rule", camp, 12, r, crew, true)
		}
	}
	for _, crew := range crews {
		checkNew(t, "each crew", camp, 12, oneInThree, crew, true)
	}
}

func TestNoNewExpeditionOfBadParts(t *testing.T) {
	for _, x := range badLands() {
		for _, n := range []int{0, 1, -1} {
			checkNew(t, "bad land", x, n, oneInThree, pair, false)
		}
	}
	for _, r := range badRules {
		checkNew(t, "bad rule", camp, 0, r, pair, false)
	}
	for _, crew := range badCrews() {
		checkNew(t, "bad crew", camp, 0, oneInThree, crew, false)
	}
}

func TestIsTrek(t *testing.T) {
	for _, c := range []struct {
		name   string
		change func(t *impl.Trek)
		want   bool
	}{
		{"on the way", func(t *impl.Trek) {}, true},
		{"just enough for the way home", func(t *impl.Trek) { t.Depots, t.Party.Food, t.Given = nil, 18, 54 }, true},
		{"one unit less", func(t *impl.Trek) { t.Depots, t.Party.Food, t.Given = nil, 17, 53 }, false},
		{"just enough with the depots", func(t *impl.Trek) { t.Party.Food, t.Given = 12, 58 }, true},
		{"one unit less with the depots", func(t *impl.Trek) { t.Party.Food, t.Given = 8, 54 }, false},
		{"without food, at the base", func(t *impl.Trek) { t.Depots, t.Party.At, t.Party.Food, t.Given = nil, 0, 0, 36 }, true},
		{"without food, at the base, with depots", func(t *impl.Trek) { t.Party.At, t.Party.Food, t.Given = 0, 0, 46 }, true},
		{"without food, at the base, nothing eaten", func(t *impl.Trek) { t.Depots, t.Party.At, t.Party.Food, t.Given, t.Eaten = nil, 0, 0, 0, 0 }, true},
		{"without food, on the way", func(t *impl.Trek) { t.Party.Food, t.Given = 0, 46 }, false},
		{"without food, on the way, with a depot there", func(t *impl.Trek) { t.Depots, t.Party.Food, t.Given = depotsOf([2]int{12, 20}), 0, 56 }, true},
		{"with the most food", func(t *impl.Trek) { t.Party.Food, t.Given = 10000, 10046 }, true},
		{"with more than the most food", func(t *impl.Trek) { t.Party.Food, t.Given = 10001, 10047 }, false},
		{"food below 0", func(t *impl.Trek) { t.Party.Food, t.Given = -1, 45 }, false},
		{"food below 0, at the base", func(t *impl.Trek) { t.Depots, t.Party.At, t.Party.Food, t.Given = nil, 0, -1, 35 }, false},
		{"on the first day", func(t *impl.Trek) { t.Day, t.Journal = 0, nil }, true},
		{"on the first day, with a page of it", func(t *impl.Trek) { t.Day, t.Journal = 0, pagesOf([3]int{0, 1, 1}) }, true},
		{"before the first day", func(t *impl.Trek) { t.Day, t.Journal = -1, nil }, false},
		{"on the last day", func(t *impl.Trek) { t.Day = 5000 }, true},
		{"behind the last day", func(t *impl.Trek) { t.Day = 5001 }, false},
		{"the greatest int of a day", func(t *impl.Trek) { t.Day = math.MaxInt }, false},
		{"the least int of a day", func(t *impl.Trek) { t.Day, t.Journal = math.MinInt, nil }, false},
		{"on the day of the last page", func(t *impl.Trek) { t.Day = 10 }, true},
		{"a day before the last page", func(t *impl.Trek) { t.Day = 9 }, false},
		{"on the day of the first page", func(t *impl.Trek) { t.Day = 3 }, false},
		{"on the last day, with a page of it", func(t *impl.Trek) { t.Day, t.Journal = 5000, pagesOf([3]int{5000, 1, 1}) }, true},
		{"on the last day, with a page of the day behind it", func(t *impl.Trek) { t.Day, t.Journal = 5000, pagesOf([3]int{5001, 1, 1}) }, false},
		{"behind the last day, with a page of it", func(t *impl.Trek) { t.Day, t.Journal = 5001, pagesOf([3]int{5001, 1, 1}) }, false},
		{"without a journal", func(t *impl.Trek) { t.Journal = nil }, true},
		{"with an empty journal", func(t *impl.Trek) { t.Journal = []impl.Page{} }, true},
		{"with a journal of 100 pages", func(t *impl.Trek) { t.Day, t.Journal = 5000, hundredPages(100) }, true},
		{"with a journal of 101 pages", func(t *impl.Trek) { t.Day, t.Journal = 5000, hundredPages(101) }, false},
		{"with a journal of the zero page", func(t *impl.Trek) { t.Journal = make([]impl.Page, 1) }, false},
		{"with a page that was changed", func(t *impl.Trek) { t.Journal[1].Food++ }, false},
		{"with a last page that was changed", func(t *impl.Trek) { t.Journal[3].Seal++ }, false},
		{"with a page of another land", func(t *impl.Trek) { t.Journal = pagesOf([3]int{3, 63, 40}) }, true},
		{"nothing given and nothing eaten", func(t *impl.Trek) { t.Given, t.Eaten = 0, 0 }, false},
		{"nothing eaten", func(t *impl.Trek) { t.Given, t.Eaten = 35, 0 }, true},
		{"eaten below 0", func(t *impl.Trek) { t.Given, t.Eaten = 34, -1 }, false},
		{"given below 0", func(t *impl.Trek) { t.Given, t.Eaten = -1, -36 }, false},
		{"a unit more given than there is", func(t *impl.Trek) { t.Given++ }, false},
		{"a unit less given than there is", func(t *impl.Trek) { t.Given-- }, false},
		{"a unit more eaten", func(t *impl.Trek) { t.Eaten++ }, false},
		{"a unit less eaten", func(t *impl.Trek) { t.Eaten-- }, false},
		{"a unit more in a depot", func(t *impl.Trek) { t.Depots[0].Food++ }, false},
		{"a unit less with the party", func(t *impl.Trek) { t.Party.Food-- }, false},
		{"a unit laid down", func(t *impl.Trek) { t.Depots[1].Food++; t.Party.Food-- }, true},
		{"the most given", func(t *impl.Trek) { t.Given, t.Eaten = 1000000, 999965 }, true},
		{"more than the most given", func(t *impl.Trek) { t.Given, t.Eaten = 1000001, 999966 }, false},
		{"the most eaten, at the base", func(t *impl.Trek) {
			t.Depots, t.Party.At, t.Party.Food, t.Given, t.Eaten = nil, 0, 0, 1000000, 1000000
		}, true},
		{"more than the most eaten, at the base", func(t *impl.Trek) {
			t.Depots, t.Party.At, t.Party.Food, t.Given, t.Eaten = nil, 0, 0, 1000001, 1000001
		}, false},
		{"the greatest int of both", func(t *impl.Trek) { t.Given, t.Eaten = math.MaxInt, math.MaxInt-35 }, false},
		{"given that wraps around", func(t *impl.Trek) { t.Given, t.Eaten = math.MinInt+34, math.MaxInt }, false},
		{"the least int of given", func(t *impl.Trek) { t.Given = math.MinInt }, false},
		{"the least int of eaten", func(t *impl.Trek) { t.Eaten = math.MinInt }, false},
		{"a past that keeps the rule", func(t *impl.Trek) { t.Party.Past = pastOf("s..s..s...") }, true},
		{"a past that breaks the rule", func(t *impl.Trek) { t.Party.Past = pastOf("ss") }, false},
		{"a past that broke the rule long ago", func(t *impl.Trek) { t.Party.Past = pastOf("s.s.......") }, false},
		{"a past that breaks the rule on the last day", func(t *impl.Trek) { t.Party.Past = pastOf("....s.s") }, false},
		{"no past", func(t *impl.Trek) { t.Party.Past = nil }, true},
		{"a past too long", func(t *impl.Trek) { t.Party.Past = make([]bool, 11) }, false},
		{"a base that is a rock", func(t *impl.Trek) { t.Base = 6 }, false},
		{"a base that is no cell", func(t *impl.Trek) { t.Base = 20 }, false},
		{"another base", func(t *impl.Trek) { t.Base = 18 }, true},
		{"at the base", func(t *impl.Trek) { t.Party.At = 0 }, true},
		{"on a rock", func(t *impl.Trek) { t.Party.At = 6 }, false},
		{"on no cell", func(t *impl.Trek) { t.Party.At = -1 }, false},
		{"a depot on a rock", func(t *impl.Trek) { t.Depots[0].Cell = 6 }, false},
		{"depots that are not in order", func(t *impl.Trek) { slices.Reverse(t.Depots) }, false},
		{"depots at the same cell", func(t *impl.Trek) { t.Depots[0].Cell = 10 }, false},
		{"an empty depot", func(t *impl.Trek) { t.Depots[0].Food, t.Given = 0, t.Given-4 }, false},
		{"a depot with too much", func(t *impl.Trek) { t.Depots[0].Food, t.Given = 10001, t.Given+9997 }, false},
		{"a depot that is counted as full", func(t *impl.Trek) { t.Depots[0].Food, t.Given = 10001, t.Given+9996 }, false},
		{"a depot at the cell of the party", func(t *impl.Trek) { t.Depots = append(t.Depots, impl.Depot{Cell: 12, Food: 3}); t.Given += 3 }, true},
		{"a rule that is none", func(t *impl.Trek) { t.Rule = impl.Rule{Most: 3, Window: 3} }, false},
		{"a rule that allows fewer storms", func(t *impl.Trek) { t.Rule = calm }, false},
		{"a rule that allows too many storms for the food", func(t *impl.Trek) { t.Rule = nineInTen }, false},
		{"nobody", func(t *impl.Trek) { t.Party.Crew = nil }, false},
		{"somebody who needs nothing", func(t *impl.Trek) { t.Party.Crew[1].Need = 0 }, false},
		{"somebody who needs far more", func(t *impl.Trek) { t.Party.Crew[1].Need = 10 }, false},
		{"a land with a cell too few", func(t *impl.Trek) { t.Land.Cells = t.Land.Cells[:19] }, false},
		{"a land with a cell of no kind", func(t *impl.Trek) { t.Land.Cells[4] = 3 }, false},
		{"a land with a rock on the way", func(t *impl.Trek) { t.Land.Cells[5], t.Depots[0].Cell = 2, 9 }, false},
		{"the zero expedition", func(t *impl.Trek) { *t = impl.Trek{} }, false},
	} {
		x := changedTrek(c.change)
		if impl.IsLand(x.Land) && impl.AreCrew(x.Party.Crew) && isTrekOf(x) != c.want {
			t.Errorf("%s: the test itself is wrong", c.name)
		}
		checkIsTrek(t, c.name, x, c.want)
	}
}

// hundredPages are so many pages, until the day 5000.
func hundredPages(count int) []impl.Page {
	l := []impl.Page{}
	for i := range count {
		l = append(l, impl.Page{Day: 5000 - count + 1 + i, Cell: i % 64, Food: i})
	}
	return sealed(l)
}

// strewnTreks are valid ones and ones that are not.
func strewnTreks(count int) iter.Seq[impl.Trek] {
	throw := dice()
	return func(yield func(impl.Trek) bool) {
		for s := range strewnScenes(count) {
			if throw(3) > 0 {
				s.p.Past = keepingPast(throw, s.r)
			}
			journal := strewnPages(throw, throw(6))
			day := throw(60)
			for _, page := range journal {
				day += page.Day
			}
			t := trekOf(s, min(day, 5000), throw(2000), journal)
			switch throw(14) {
			case 0:
				t.Given += throw(3) - 1
			case 1:
				t.Eaten -= throw(2)
			case 2:
				t.Day = throw(5003) - 1
			case 3:
				t.Eaten, t.Given = t.Eaten+999500, t.Given+999500
			case 4:
				t.Journal = append(t.Journal, impl.Page{Day: t.Day, Seal: throw(2)})
			}
			if !yield(t) {
				return
			}
		}
	}
}

// keepingPast is a past that keeps a rule.
func keepingPast(throw func(sides int) int, r impl.Rule) []bool {
	past := []bool{}
	for range throw(11) {
		past = append(past, throw(2) == 0 && mayStormOf(r, past))
	}
	return past
}

func TestStrewnTreks(t *testing.T) {
	valid, others := 0, 0
	for x := range strewnTreks(12000) {
		want := isTrekOf(x)
		checkIsTrek(t, "strewn", x, want)
		if got := impl.CanReturnNow(x); got != (sceneOf(x).leftOf() >= 0) {
			t.Errorf("CanReturnNow(%v) is %v", x, got)
		}
		if got := impl.AtBase(x); got != (x.Party.At == x.Base) {
			t.Errorf("AtBase(%v) is %v", x, got)
		}
		if !impl.EqualTreks(x, trekLike(x)) {
			t.Errorf("%v does not equal itself", x)
		}
		if want {
			valid++
		} else {
			others++
		}
	}
	if valid < 1500 || others < 1500 {
		t.Errorf("%d expeditions are valid, %d are not", valid, others)
	}
}

func TestBadTreks(t *testing.T) {
	for name, s := range badScenes() {
		x := trekOf(s, 5, 10, nil)
		checkIsTrek(t, name, x, false)
		if impl.CanReturnNow(x) {
			t.Errorf("%s: CanReturnNow(%.300v) is true", name, x)
		}
		if got := impl.AtBase(x); got != (s.p.At == s.base) {
			t.Errorf("%s: AtBase(%.300v) is %v", name, x, got)
		}
	}
	for _, l := range badJournals() {
		x := changedTrek(func(t *impl.Trek) { t.Journal, t.Day = l, 5000 })
		checkIsTrek(t, "bad journal", x, false)
	}
	for _, l := range goodJournals() {
		x := changedTrek(func(t *impl.Trek) { t.Journal, t.Day = l, 5000 })
		checkIsTrek(t, "good journal", x, len(l) == 0 || l[len(l)-1].Day <= 5000)
	}
}

func TestCanReturnNowAndAtBase(t *testing.T) {
	for _, c := range []struct {
		name   string
		change func(t *impl.Trek)
		can    bool
		atBase bool
	}{
		{"on the way", func(t *impl.Trek) {}, true, false},
		{"at the base", func(t *impl.Trek) { t.Party.At = 0 }, true, true},
		{"at another base", func(t *impl.Trek) { t.Base = 12 }, true, true},
		{"with too little food", func(t *impl.Trek) { t.Party.Food = 8 }, false, false},
		{"no expedition, by its day", func(t *impl.Trek) { t.Day = -1 }, true, false},
		{"no expedition, by what was given", func(t *impl.Trek) { t.Given, t.Eaten = -7, math.MinInt }, true, false},
		{"no expedition, by its past", func(t *impl.Trek) { t.Party.Past = pastOf("ss") }, true, false},
		{"no expedition, by its journal", func(t *impl.Trek) { t.Journal[0].Day = 99 }, true, false},
		{"no expedition, by its land", func(t *impl.Trek) { t.Land.W = 4 }, false, false},
		{"on a rock, at the base", func(t *impl.Trek) { t.Party.At, t.Base = 6, 6 }, false, true},
		{"on no cell, at the base", func(t *impl.Trek) { t.Party.At, t.Base = -1, -1 }, false, true},
		{"the greatest and the least int", func(t *impl.Trek) { t.Party.At, t.Base = math.MaxInt, math.MinInt }, false, false},
		{"the least int of both", func(t *impl.Trek) { t.Party.At, t.Base = math.MinInt, math.MinInt }, false, true},
		{"the zero expedition", func(t *impl.Trek) { *t = impl.Trek{} }, false, true},
		{"the zero expedition at another cell", func(t *impl.Trek) { *t = impl.Trek{Base: 1} }, false, false},
	} {
		x := changedTrek(c.change)
		if got := impl.CanReturnNow(x); got != c.can {
			t.Errorf("%s: CanReturnNow(%v) is %v", c.name, x, got)
		}
		if got := impl.AtBase(x); got != c.atBase {
			t.Errorf("%s: AtBase(%v) is %v", c.name, x, got)
		}
	}
}

// trekChanges each give an expedition that no other one of them gives.
var trekChanges = []func(t *impl.Trek){
	func(t *impl.Trek) {},
	func(t *impl.Trek) { t.Land.W, t.Land.H = 4, 5 },
	func(t *impl.Trek) { t.Land.W = 4 },
	func(t *impl.Trek) { t.Land.H = 5 },
	func(t *impl.Trek) { t.Land.Cells[0] = 1 },
	func(t *impl.Trek) { t.Land.Cells[19] = 1 },
	func(t *impl.Trek) { t.Land.Cells = t.Land.Cells[:19] },
	func(t *impl.Trek) { t.Land.Cells = append(t.Land.Cells, 0) },
	func(t *impl.Trek) { t.Land.Cells = nil },
	func(t *impl.Trek) { t.Base = 1 },
	func(t *impl.Trek) { t.Base = math.MaxInt },
	func(t *impl.Trek) { t.Rule.Most = 2 },
	func(t *impl.Trek) { t.Rule.Window = 4 },
	func(t *impl.Trek) { t.Rule = impl.Rule{} },
	func(t *impl.Trek) { t.Depots[0].Cell = 4 },
	func(t *impl.Trek) { t.Depots[0].Food = 5 },
	func(t *impl.Trek) { t.Depots[1].Food = math.MinInt },
	func(t *impl.Trek) { t.Depots = t.Depots[:1] },
	func(t *impl.Trek) { t.Depots = t.Depots[1:] },
	func(t *impl.Trek) { t.Depots = append(t.Depots, impl.Depot{}) },
	func(t *impl.Trek) { slices.Reverse(t.Depots) },
	func(t *impl.Trek) { t.Depots = nil },
	func(t *impl.Trek) { t.Party.At = 11 },
	func(t *impl.Trek) { t.Party.Food = 24 },
	func(t *impl.Trek) { t.Party.Crew[0].Id = 0 },
	func(t *impl.Trek) { t.Party.Crew[0].Strength = 21 },
	func(t *impl.Trek) { t.Party.Crew[1].Need = 2 },
	func(t *impl.Trek) { t.Party.Crew[1].Ill = true },
	func(t *impl.Trek) { t.Party.Crew = t.Party.Crew[:1] },
	func(t *impl.Trek) { t.Party.Crew = nil },
	func(t *impl.Trek) { t.Party.Past[0] = false },
	func(t *impl.Trek) { t.Party.Past[2] = true },
	func(t *impl.Trek) { t.Party.Past = t.Party.Past[:2] },
	func(t *impl.Trek) { t.Party.Past = append(t.Party.Past, false) },
	func(t *impl.Trek) { t.Party.Past = nil },
	func(t *impl.Trek) { t.Journal[0].Day = 2 },
	func(t *impl.Trek) { t.Journal[1].Cell = 10 },
	func(t *impl.Trek) { t.Journal[2].Food = 21 },
	func(t *impl.Trek) { t.Journal[3].Seal++ },
	func(t *impl.Trek) { t.Journal = t.Journal[:3] },
	func(t *impl.Trek) { t.Journal = append(t.Journal, impl.Page{}) },
	func(t *impl.Trek) { t.Journal = nil },
	func(t *impl.Trek) { t.Day = 13 },
	func(t *impl.Trek) { t.Day = math.MinInt },
	func(t *impl.Trek) { t.Given++ },
	func(t *impl.Trek) { t.Given = math.MaxInt },
	func(t *impl.Trek) { t.Eaten++ },
	func(t *impl.Trek) { t.Eaten = -36 },
	func(t *impl.Trek) { t.Given, t.Eaten = t.Eaten, t.Given },
	func(t *impl.Trek) { t.Day, t.Base = t.Base, t.Day },
	func(t *impl.Trek) { *t = impl.Trek{} },
}

func TestEqualTreks(t *testing.T) {
	for i, change := range trekChanges {
		for k, other := range trekChanges {
			a, b := changedTrek(change), changedTrek(other)
			if got := impl.EqualTreks(a, b); got != (i == k) {
				t.Errorf("EqualTreks of %v and %v is %v", a, b, got)
			}
		}
	}
	for _, empty := range []func(t *impl.Trek){
		func(t *impl.Trek) { t.Land.Cells = t.Land.Cells[:0] },
		func(t *impl.Trek) { t.Depots = t.Depots[:0] },
		func(t *impl.Trek) { t.Party.Crew = t.Party.Crew[:0] },
		func(t *impl.Trek) { t.Party.Past = t.Party.Past[:0] },
		func(t *impl.Trek) { t.Journal = t.Journal[:0] },
	} {
		a := changedTrek(empty)
		b := trekLike(a)
		b.Land.Cells = append([]int(nil), a.Land.Cells...)
		b.Depots = append([]impl.Depot(nil), a.Depots...)
		b.Party.Crew = append([]impl.Member(nil), a.Party.Crew...)
		b.Party.Past = append([]bool(nil), a.Party.Past...)
		b.Journal = append([]impl.Page(nil), a.Journal...)
		if !impl.EqualTreks(a, b) || !impl.EqualTreks(b, a) {
			t.Errorf("a nil and an empty list make %v and %v differ", a, b)
		}
		if impl.EqualTreks(a, onTheWay()) || impl.EqualTreks(onTheWay(), a) {
			t.Errorf("%v equals an expedition with a list more", a)
		}
	}
}

// guardedTrek is an expedition of guarded lists.
type guardedTrek struct {
	trek    impl.Trek
	cells   guarded[int]
	depots  guarded[impl.Depot]
	party   guardedParty
	journal guarded[impl.Page]
}

func guardTrek(t impl.Trek) guardedTrek {
	g := guardedTrek{trek: t, cells: guard(t.Land.Cells...), depots: guard(t.Depots...), party: guardParty(t.Party), journal: guard(t.Journal...)}
	g.trek.Land.Cells, g.trek.Depots, g.trek.Party, g.trek.Journal = g.cells.list, g.depots.list, g.party.party, g.journal.list
	return g
}

func (g guardedTrek) check(t *testing.T, name string) {
	t.Helper()
	g.cells.check(t, name)
	g.depots.check(t, name)
	g.party.check(t, name)
	g.journal.check(t, name)
}

func TestTreksStayAsTheyWere(t *testing.T) {
	for i, change := range trekChanges {
		g, other := guardTrek(changedTrek(change)), guardTrek(changedTrek(trekChanges[len(trekChanges)-1-i]))
		impl.IsTrek(g.trek)
		impl.CanReturnNow(g.trek)
		impl.AtBase(g.trek)
		impl.EqualTreks(g.trek, other.trek)
		impl.EqualTreks(g.trek, g.trek)
		g.check(t, "the functions of expeditions")
		other.check(t, "EqualTreks")
	}
}

func TestNewTreksShareNoMemory(t *testing.T) {
	for _, members := range [][]impl.Member{nil, pair, full, sick, badCrews()[6]} {
		for _, x := range []impl.Land{camp, landOf("."), plain, {}} {
			cells, crew := guard(x.Cells...), guard(members...)
			y := impl.Land{W: x.W, H: x.H, Cells: cells.list}
			for _, base := range []int{0, 6, 20} {
				newTrek := func() impl.Trek {
					made, _ := impl.NewTrek(y, base, oneInThree, crew.list)
					return made
				}
				checkOwnMemory(t, "NewTrek, its land", cells, func() []int { return newTrek().Land.Cells })
				checkOwnMemory(t, "NewTrek, its crew", crew, func() []impl.Member { return newTrek().Party.Crew })
				cells.check(t, "NewTrek")
				crew.check(t, "NewTrek")
			}
		}
	}
}

func TestTreksKeepNoState(t *testing.T) {
	x := onTheWay()
	first := impl.IsTrek(x)
	x.Depots[0].Food++
	second := impl.IsTrek(x)
	x.Given++
	third := impl.IsTrek(x)
	if !first || second || !third {
		t.Errorf("while the expedition changes, IsTrek is %v, %v and %v", first, second, third)
	}
}
