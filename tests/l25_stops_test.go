package tests

import (
	"math"
	"slices"
	"testing"

	"loop.example/g03008/impl"
)

// legsOf are legs, each given as where it goes to and how long one stays there.
func legsOf(pairs ...[2]int) []impl.Leg {
	l := []impl.Leg{}
	for _, pair := range pairs {
		l = append(l, impl.Leg{To: pair[0], Stay: pair[1]})
	}
	return l
}

// errand goes from the cell 0 of the camp to the cell 12, and stays on the way.
var errand = legsOf([2]int{10, 2}, [2]int{12, 0}, [2]int{12, 1})

// waits are so many legs to a cell, with so many days there.
func waits(to int, stays ...int) []impl.Leg {
	l := []impl.Leg{}
	for _, stay := range stays {
		l = append(l, impl.Leg{To: to, Stay: stay})
	}
	return l
}

// planCellsOf is PlanCells in a valid land, told day by day; nil if there is no
// such plan.
func planCellsOf(x impl.Land, all [][]int, from int, l []impl.Leg) []int {
	if !isOpenOf(x, from) || len(l) > 10 {
		return nil
	}
	cells := []int{from}
	for _, leg := range l {
		here := cells[len(cells)-1]
		if leg.Stay < 0 || leg.Stay > 30 || !isOpenOf(x, leg.To) || all[here][leg.To] < 0 {
			return nil
		}
		way := wayOf(x, all, here, leg.To)
		for _, n := range way[1:] {
			cells = append(cells, n)
		}
		for range leg.Stay {
			cells = append(cells, leg.To)
		}
	}
	return cells
}

// planFoodOf is PlanFood for a valid rule and a valid crew.
func planFoodOf(cells []int, r impl.Rule, p impl.Party) int {
	days := len(cells) - 1
	if days < 0 || days > 200 || len(p.Past) > 400 {
		return -1
	}
	return needOf(p.Crew) * worstDaysOf(r, p.Past, days)
}

// backPlanOf is BackPlan, told by all stops in the opposite order.
func backPlanOf(from int, l []impl.Leg) []impl.Leg {
	stops := []int{from}
	for _, leg := range l {
		stops = append(stops, leg.To)
	}
	slices.Reverse(stops)
	back := []impl.Leg{}
	for _, stop := range stops[1:] {
		back = append(back, impl.Leg{To: stop})
	}
	return back
}

// strewnLegs are up to so many, most of them in the land and most of them short.
func strewnLegs(throw func(sides int) int, x impl.Land, most int) []impl.Leg {
	l := []impl.Leg{}
	for range throw(most + 1) {
		leg := impl.Leg{To: throw(len(x.Cells)), Stay: max(0, throw(6)-3)}
		for tries := 0; !isOpenOf(x, leg.To) && tries < 9; tries++ {
			leg.To = throw(len(x.Cells))
		}
		switch throw(25) {
		case 0:
			leg.To = throw(len(x.Cells)+2) - 1
		case 1:
			leg.Stay = throw(34) - 1
		}
		l = append(l, leg)
	}
	return l
}

// checkPlan checks whether legs are a plan, their cells and their days; no cells
// are wanted where there is no plan.
func checkPlan(t *testing.T, name string, x impl.Land, from int, l []impl.Leg, want []int) {
	t.Helper()
	if got := impl.IsPlan(x, from, l); got != (len(want) > 0) {
		t.Errorf("%s: IsPlan(%s, %d, %v) is %v", name, showLand(x), from, l, got)
	}
	if got := impl.PlanCells(x, from, l); !slices.Equal(got, want) {
		t.Errorf("%s: PlanCells(%s, %d, %v) is %v, not %v", name, showLand(x), from, l, got, want)
	}
	if got := impl.PlanDays(x, from, l); got != len(want)-1 {
		t.Errorf("%s: PlanDays(%s, %d, %v) is %d, not %d", name, showLand(x), from, l, got, len(want)-1)
	}
}

func checkPlanFood(t *testing.T, name string, x impl.Land, from int, l []impl.Leg, r impl.Rule, p impl.Party, want int) {
	t.Helper()
	if got := impl.PlanFood(x, from, l, r, p); got != want {
		t.Errorf("%s: PlanFood(%s, %d, %v, %v, %v) is %d, not %d", name, showLand(x), from, l, r, p, got, want)
	}
}

func checkBack(t *testing.T, name string, from int, l []impl.Leg, want []impl.Leg) {
	t.Helper()
	if got := impl.BackPlan(from, l); !slices.Equal(got, want) {
		t.Errorf("%s: BackPlan(%d, %v) is %v, not %v", name, from, l, got, want)
	}
}

func TestPlans(t *testing.T) {
	for _, c := range []struct {
		name string
		x    impl.Land
		from int
		l    []impl.Leg
		want []int
	}{
		{"with stays and without", camp, 0, errand, []int{0, 5, 10, 10, 10, 11, 12, 12}},
		{"one leg", camp, 0, legsOf([2]int{12, 0}), []int{0, 5, 10, 11, 12}},
		{"one leg with a stay", camp, 12, legsOf([2]int{0, 2}), []int{12, 11, 10, 5, 0, 0, 0}},
		{"there and back", camp, 3, legsOf([2]int{13, 0}, [2]int{3, 0}), []int{3, 8, 13, 8, 3}},
		{"there and back with stays", camp, 3, legsOf([2]int{8, 1}, [2]int{3, 1}), []int{3, 8, 8, 3, 3}},
		{"over a stop that is no detour", camp, 0, legsOf([2]int{5, 0}, [2]int{10, 0}), []int{0, 5, 10}},
		{"over a stop that is a detour", camp, 0, legsOf([2]int{1, 0}, [2]int{10, 0}), []int{0, 1, 0, 5, 10}},
		{"legs to the same cell", camp, 0, legsOf([2]int{5, 0}, [2]int{5, 0}, [2]int{5, 0}), []int{0, 5}},
		{"legs to the same cell with stays", camp, 0, legsOf([2]int{5, 1}, [2]int{5, 0}, [2]int{5, 2}), []int{0, 5, 5, 5, 5}},
		{"a leg to where the party is", camp, 0, legsOf([2]int{0, 0}), []int{0}},
		{"a leg to where the party is, with a stay", camp, 0, legsOf([2]int{0, 3}), []int{0, 0, 0, 0}},
		{"a leg to where the party is, and another one", camp, 0, legsOf([2]int{0, 0}, [2]int{1, 0}), []int{0, 1}},
		{"no legs", camp, 12, nil, []int{12}},
		{"no legs, empty", camp, 0, []impl.Leg{}, []int{0}},
		{"no legs, on ice", camp, 8, nil, []int{8}},
		{"no legs, from a rock", camp, 6, nil, nil},
		{"no legs, from no cell", camp, 20, nil, nil},
		{"no legs, from before the first cell", camp, -1, nil, nil},
		{"no legs, from the greatest int", camp, math.MaxInt, nil, nil},
		{"no legs, from the least int", camp, math.MinInt, nil, nil},
		{"ten legs", camp, 0, waits(1, 0, 1, 0, 1, 0, 1, 0, 1, 0, 1), []int{0, 1, 1, 1, 1, 1, 1}},
		{"ten legs, none of which takes a day", camp, 0, make([]impl.Leg, 10), []int{0}},
		{"eleven legs", camp, 0, waits(1, 0, 1, 0, 1, 0, 1, 0, 1, 0, 1, 0), nil},
		{"eleven legs, none of which takes a day", camp, 0, make([]impl.Leg, 11), nil},
		{"the longest stay", camp, 0, legsOf([2]int{5, 30}), append([]int{0}, slices.Repeat([]int{5}, 31)...)},
		{"a stay too long", camp, 0, legsOf([2]int{5, 31}), nil},
		{"a stay too long behind another leg", camp, 0, legsOf([2]int{5, 30}, [2]int{5, 31}), nil},
		{"a stay below 0", camp, 0, legsOf([2]int{5, -1}), nil},
		{"a stay below 0 before another leg", camp, 0, legsOf([2]int{5, -1}, [2]int{5, 1}), nil},
		{"the greatest int of a stay", camp, 0, legsOf([2]int{5, math.MaxInt}), nil},
		{"the least int of a stay", camp, 0, legsOf([2]int{5, math.MinInt}), nil},
		{"a leg to a rock", camp, 0, legsOf([2]int{6, 0}), nil},
		{"a leg to a rock behind another one", camp, 0, legsOf([2]int{5, 0}, [2]int{6, 1}), nil},
		{"a leg to a rock before another one", camp, 0, legsOf([2]int{6, 0}, [2]int{5, 1}), nil},
		{"a leg to no cell", camp, 0, legsOf([2]int{20, 0}), nil},
		{"a leg to no cell behind another one", camp, 0, legsOf([2]int{5, 0}, [2]int{-1, 0}), nil},
		{"a leg to the greatest int", camp, 0, legsOf([2]int{math.MaxInt, 0}), nil},
		{"a leg to the least int", camp, 0, legsOf([2]int{math.MinInt, 0}), nil},
		{"a leg without a way", wall, 0, legsOf([2]int{4, 0}), nil},
		{"a leg without a way from the one before", wall, 0, legsOf([2]int{1, 0}, [2]int{3, 0}), nil},
		{"a leg without a way, and back", wall, 0, legsOf([2]int{3, 0}, [2]int{1, 0}), nil},
		{"legs on the other side of a wall", wall, 4, legsOf([2]int{3, 0}, [2]int{14, 0}), []int{4, 3, 4, 9, 14}},
		{"from a rock", camp, 6, errand, nil},
		{"from no cell", camp, 20, errand, nil},
		{"from a rock to the same rock", camp, 6, legsOf([2]int{6, 0}), nil},
		{"from no cell to the same", camp, -1, legsOf([2]int{-1, 0}), nil},
		{"the only cell", landOf("i"), 0, legsOf([2]int{0, 1}, [2]int{0, 0}), []int{0, 0}},
		{"no land", impl.Land{}, 0, nil, nil},
	} {
		checkPlan(t, c.name, c.x, c.from, c.l, c.want)
	}
}

func TestPlanFood(t *testing.T) {
	p := impl.Party{Crew: pair}
	with := func(past string) impl.Party { return impl.Party{Crew: pair, Past: pastOf(past)} }
	crew := func(l ...impl.Member) impl.Party { return impl.Party{Crew: l} }
	long := waits(0, 30, 30, 30, 30, 30, 30, 20)
	for _, c := range []struct {
		name string
		from int
		l    []impl.Leg
		r    impl.Rule
		p    impl.Party
		want int
	}{
		{"with storms", 0, errand, oneInThree, p, 33},
		{"without storms", 0, errand, calm, p, 21},
		{"a storm may be on the first day", 0, errand, oneInThree, with("s.."), 33},
		{"no storm may be on the first day", 0, errand, oneInThree, with("s"), 30},
		{"no storm may be on the first day, a day later", 0, errand, oneInThree, with("s."), 30},
		{"many storms", 0, errand, impl.Rule{Most: 9, Window: 10}, p, 3 * 70},
		{"no legs", 0, nil, oneInThree, p, 0},
		{"no legs, empty", 0, []impl.Leg{}, oneInThree, with("s"), 0},
		{"legs that take no day", 0, make([]impl.Leg, 10), oneInThree, p, 0},
		{"a day, and a storm", 0, legsOf([2]int{1, 0}), oneInThree, p, 6},
		{"a day, and no storm", 0, legsOf([2]int{1, 0}), oneInThree, with("s"), 3},
		{"a day of staying, and a storm", 0, legsOf([2]int{0, 1}), oneInThree, p, 6},
		{"another crew", 0, errand, calm, crew(strong...), 560},
		{"a crew that is ill", 0, errand, calm, crew(sick...), 112},
		{"a party that is somewhere else, with food", 0, errand, calm, impl.Party{At: 6, Food: -7, Crew: pair}, 21},
		{"as many days as there can be", 0, long, calm, p, 600},
		{"as many days as there can be, with storms", 0, long, oneInThree, p, 900},
		{"a day more", 0, append(slices.Clone(long), impl.Leg{To: 1}), calm, p, -1},
		{"a day of staying more", 0, append(slices.Clone(long), impl.Leg{Stay: 1}), calm, p, -1},
		{"far more days", 0, waits(5, 30, 30, 30, 30, 30, 30, 30, 30, 30, 30), calm, p, -1},
		{"a past as long as it may be", 0, errand, calm, impl.Party{Crew: pair, Past: make([]bool, 400)}, 21},
		{"a past too long", 0, errand, calm, impl.Party{Crew: pair, Past: make([]bool, 401)}, -1},
		{"a past too long, and no legs", 0, nil, calm, impl.Party{Crew: pair, Past: make([]bool, 401)}, -1},
		{"no plan, as from is a rock", 6, errand, calm, p, -1},
		{"no plan, as from is no cell", 20, nil, calm, p, -1},
		{"no plan, as a leg goes to a rock", 0, legsOf([2]int{6, 0}), calm, p, -1},
		{"no plan, as a stay is below 0", 0, legsOf([2]int{0, -1}), calm, p, -1},
		{"no plan, as there are eleven legs", 0, make([]impl.Leg, 11), calm, p, -1},
		{"no rule", 0, errand, impl.Rule{}, p, -1},
		{"no rule, and no legs", 0, nil, impl.Rule{}, p, -1},
		{"no crew", 0, errand, calm, impl.Party{}, -1},
		{"no crew, and no legs", 0, nil, calm, impl.Party{}, -1},
		{"a crew that is not in order", 0, errand, calm, crew(well(2, 5, 1), well(1, 5, 1)), -1},
		{"a crew that is not in order, and no legs", 0, nil, calm, crew(well(2, 5, 1), well(1, 5, 1)), -1},
		{"nothing is as it should be", 6, errand, impl.Rule{}, impl.Party{}, -1},
	} {
		checkPlanFood(t, c.name, camp, c.from, c.l, c.r, c.p, c.want)
	}
}

func TestBackPlan(t *testing.T) {
	for _, c := range []struct {
		name string
		from int
		l    []impl.Leg
		want []impl.Leg
	}{
		{"of several legs", 0, errand, legsOf([2]int{12, 0}, [2]int{10, 0}, [2]int{0, 0})},
		{"of two legs", 7, legsOf([2]int{8, 1}, [2]int{9, 2}), legsOf([2]int{8, 0}, [2]int{7, 0})},
		{"of one leg", 3, legsOf([2]int{12, 5}), legsOf([2]int{3, 0})},
		{"of no legs", 3, nil, nil},
		{"of no legs, empty", 3, []impl.Leg{}, nil},
		{"of a leg to where the party is", 3, legsOf([2]int{3, 5}), legsOf([2]int{3, 0})},
		{"of a way in a ring", 0, legsOf([2]int{2, 0}, [2]int{8, 0}, [2]int{0, 0}), legsOf([2]int{8, 0}, [2]int{2, 0}, [2]int{0, 0})},
		{"of eleven legs", 4, waits(5, 1, 2, 3, 4, 5, 6, 7, 8, 9, 10, 11), append(waits(5, 0, 0, 0, 0, 0, 0, 0, 0, 0, 0), impl.Leg{To: 4})},
		{"of legs to no cells", -1, legsOf([2]int{-2, 3}, [2]int{99, -4}), legsOf([2]int{-2, 0}, [2]int{-1, 0})},
		{"of stays that are too long", 1, legsOf([2]int{2, 31}, [2]int{3, math.MaxInt}, [2]int{4, math.MinInt}), legsOf([2]int{3, 0}, [2]int{2, 0}, [2]int{1, 0})},
		{"of the greatest and the least int", math.MaxInt, legsOf([2]int{math.MinInt, 1}, [2]int{math.MaxInt, 1}), legsOf([2]int{math.MinInt, 0}, [2]int{math.MaxInt, 0})},
		{"of the least int", math.MinInt, legsOf([2]int{0, 1}), legsOf([2]int{math.MinInt, 0})},
	} {
		checkBack(t, c.name, c.from, c.l, c.want)
	}
}

func TestAPlanComesBack(t *testing.T) {
	throw := dice()
	plans, others := 0, 0
	for x := range everyLand() {
		all := allDaysOf(x)
		for range 4 {
			from, l := throw(len(x.Cells)), strewnLegs(throw, x, 11)
			want := planCellsOf(x, all, from, l)
			checkPlan(t, "strewn", x, from, l, want)
			checkBack(t, "strewn", from, l, backPlanOf(from, l))
			if len(want) == 0 {
				others++
				continue
			}
			plans++
			checkComesBack(t, x, from, l)
		}
	}
	if plans < 2000 || others < 2000 {
		t.Errorf("there are only %d plans, and %d that are none", plans, others)
	}
}

// checkComesBack takes a plan: the one back ends where it began, and takes as
// many days, without those of the stays.
func checkComesBack(t *testing.T, x impl.Land, from int, l []impl.Leg) {
	t.Helper()
	there, back := impl.PlanCells(x, from, l), impl.BackPlan(from, l)
	end := there[len(there)-1]
	cells := impl.PlanCells(x, end, back)
	if !impl.IsPlan(x, end, back) || len(cells) == 0 || cells[len(cells)-1] != from {
		t.Errorf("in %s, %v from %d ends at %d, and %v from there at %v", showLand(x), l, from, end, back, cells)
	}
	stays := 0
	for _, leg := range l {
		stays += leg.Stay
	}
	if got := impl.PlanDays(x, end, back); got != impl.PlanDays(x, from, l)-stays {
		t.Errorf("in %s, %v from %d takes %d days, and back %d", showLand(x), l, from, impl.PlanDays(x, from, l), got)
	}
	both := slices.Concat(l, back)
	if len(both) <= 10 && impl.PlanDays(x, from, both) != len(there)+len(cells)-2 {
		t.Errorf("in %s, %v from %d takes %d days", showLand(x), both, from, impl.PlanDays(x, from, both))
	}
}

func TestFoodOfStrewnPlans(t *testing.T) {
	throw := dice()
	rules, crews := allRules(), goodCrews()
	enough, tooLong := 0, 0
	for range 3000 {
		x := drawnLands[throw(len(drawnLands))]
		from, l := throw(len(x.Cells)), strewnLegs(throw, x, 9)
		if throw(8) == 0 {
			l = waits(from, slices.Repeat([]int{20 + throw(11)}, 7+throw(3))...)
		}
		p := impl.Party{At: throw(70), Food: throw(50), Crew: crews[throw(len(crews))], Past: strewnPast(throw, throw(13), 1+throw(4))}
		r := rules[throw(len(rules))]
		cells := impl.PlanCells(x, from, l)
		want := planFoodOf(cells, r, p)
		checkPlanFood(t, "strewn", x, from, l, r, p, want)
		if want > 0 {
			enough++
		} else if len(cells) > 201 {
			tooLong++
		}
	}
	if enough < 300 || tooLong < 20 {
		t.Errorf("there is food for only %d plans, and only %d are too long", enough, tooLong)
	}
}

func TestNoPlansInBadLands(t *testing.T) {
	p := impl.Party{Crew: pair}
	for _, x := range badLands() {
		for _, from := range []int{0, 1, -1, math.MaxInt} {
			for _, l := range [][]impl.Leg{nil, make([]impl.Leg, 1), legsOf([2]int{1, 1}), legsOf([2]int{from, 0})} {
				checkPlan(t, "bad land", x, from, l, nil)
				checkPlanFood(t, "bad land", x, from, l, calm, p, -1)
			}
		}
	}
}

func TestNoFoodOfBadRulesAndCrews(t *testing.T) {
	for _, l := range [][]impl.Leg{nil, errand, make([]impl.Leg, 10)} {
		for _, r := range badRules {
			checkPlanFood(t, "bad rule", camp, 0, l, r, impl.Party{Crew: pair}, -1)
		}
		for _, crew := range badCrews() {
			checkPlanFood(t, "bad crew", camp, 0, l, oneInThree, impl.Party{Crew: crew}, -1)
		}
	}
}

func TestPlansStayAsTheyWere(t *testing.T) {
	cells := guard(camp.Cells...)
	x := impl.Land{W: camp.W, H: camp.H, Cells: cells.list}
	g := guardParty(impl.Party{At: 3, Food: 9, Crew: pair, Past: pastOf("s..s")})
	for _, list := range [][]impl.Leg{nil, errand, legsOf([2]int{0, 0}), legsOf([2]int{5, 30}), legsOf([2]int{6, 0}), legsOf([2]int{5, -1}), make([]impl.Leg, 10), make([]impl.Leg, 11)} {
		l := guard(list...)
		for _, from := range []int{0, 12, 6, -1, math.MaxInt} {
			checkOwnMemory(t, "PlanCells", l, func() []int { return impl.PlanCells(x, from, l.list) })
			checkOwnMemory(t, "PlanCells", cells, func() []int { return impl.PlanCells(x, from, l.list) })
			checkOwnMemory(t, "BackPlan", l, func() []impl.Leg { return impl.BackPlan(from, l.list) })
			impl.IsPlan(x, from, l.list)
			impl.PlanDays(x, from, l.list)
			impl.PlanFood(x, from, l.list, oneInThree, g.party)
			l.check(t, "the functions of plans")
			cells.check(t, "the land")
			g.check(t, "PlanFood")
		}
	}
}

func TestPlansKeepNoState(t *testing.T) {
	l := slices.Clone(errand)
	first := impl.PlanDays(camp, 0, l)
	l[1].Stay = 20
	second := impl.PlanDays(camp, 0, l)
	l[0].To = 6
	third := impl.PlanDays(camp, 0, l)
	if first != 7 || second != 27 || third != -1 {
		t.Errorf("while the legs change, PlanDays is %d, %d and %d", first, second, third)
	}
}
