package tests

import (
	"math"
	"slices"
	"testing"

	"loop.example/g03008/impl"
)

// hikers carry 32 and eat 3 a day.
var hikers = impl.Party{At: 12, Food: 10, Crew: pair, Past: pastOf("s")}

// hikersWith are the hikers with other food.
func hikersWith(food int) impl.Party {
	p := hikers
	p.Food = food
	return p
}

// crewWith are a party of this crew with food, and with nothing else.
func crewWith(crew []impl.Member, food int) impl.Party {
	return impl.Party{Food: food, Crew: crew}
}

// anyFoods are amounts of food at which something changes for a crew.
func anyFoods(l []impl.Member) []int {
	foods := slices.Clone(edgeFoods)
	for _, food := range []int{needOf(l), 2 * needOf(l), 7 * needOf(l), capOf(l), capOf(l) / 2, needOf(l) + capOf(l)} {
		foods = append(foods, food-1, food, food+1)
	}
	return foods
}

func TestIsParty(t *testing.T) {
	cases := []struct {
		name  string
		spoil func(p *impl.Party)
		want  bool
	}{
		{"as it is", func(p *impl.Party) {}, true},
		{"on ice", func(p *impl.Party) { p.At = 8 }, true},
		{"at the first cell", func(p *impl.Party) { p.At = 0 }, true},
		{"at the last cell", func(p *impl.Party) { p.At = 19 }, true},
		{"on a rock", func(p *impl.Party) { p.At = 6 }, false},
		{"behind the last cell", func(p *impl.Party) { p.At = 20 }, false},
		{"before the first cell", func(p *impl.Party) { p.At = -1 }, false},
		{"at the greatest int", func(p *impl.Party) { p.At = math.MaxInt }, false},
		{"at the least int", func(p *impl.Party) { p.At = math.MinInt }, false},
		{"no food", func(p *impl.Party) { p.Food = 0 }, true},
		{"as much food as may be", func(p *impl.Party) { p.Food = 10000 }, true},
		{"more food than it can carry", func(p *impl.Party) { p.Food = 33 }, true},
		{"food one too many", func(p *impl.Party) { p.Food = 10001 }, false},
		{"food below 0", func(p *impl.Party) { p.Food = -1 }, false},
		{"the greatest int of food", func(p *impl.Party) { p.Food = math.MaxInt }, false},
		{"the least int of food", func(p *impl.Party) { p.Food = math.MinInt }, false},
		{"a crew of one", func(p *impl.Party) { p.Crew = p.Crew[:1] }, true},
		{"a full crew", func(p *impl.Party) { p.Crew = full }, true},
		{"all ill", func(p *impl.Party) { p.Crew = sick }, true},
		{"no crew", func(p *impl.Party) { p.Crew = nil }, false},
		{"nine of a crew", func(p *impl.Party) { p.Crew = append(slices.Clone(full), well(99, 1, 1)) }, false},
		{"a crew not in order", func(p *impl.Party) { p.Crew = []impl.Member{pair[1], pair[0]} }, false},
		{"no past", func(p *impl.Party) { p.Past = nil }, true},
		{"ten days", func(p *impl.Party) { p.Past = pastOf("ssss......") }, true},
		{"ten storms", func(p *impl.Party) { p.Past = pastOf("ssssssssss") }, true},
		{"eleven days", func(p *impl.Party) { p.Past = pastOf("...........") }, false},
		{"many days", func(p *impl.Party) { p.Past = make([]bool, 1000) }, false},
	}
	for _, c := range cases {
		p := hikers
		c.spoil(&p)
		if got := impl.IsParty(camp, p); got != c.want {
			t.Errorf("%s: IsParty of %v is %v", c.name, p, got)
		}
	}
	for _, l := range goodCrews() {
		if !impl.IsParty(camp, impl.Party{At: 3, Food: 9, Crew: l}) {
			t.Errorf("IsParty of %v is false", l)
		}
	}
	for _, l := range badCrews() {
		if impl.IsParty(camp, impl.Party{At: 3, Food: 9, Crew: l}) {
			t.Errorf("IsParty of %v is true", l)
		}
	}
	for days := range 30 {
		if got := impl.IsParty(camp, impl.Party{At: 3, Food: 9, Crew: pair, Past: make([]bool, days, 30)}); got != (days <= 10) {
			t.Errorf("IsParty with %d days is %v", days, got)
		}
	}
}

func TestIsPartyInEveryLand(t *testing.T) {
	for x := range everyLand() {
		for n, kind := range x.Cells {
			p := impl.Party{At: n, Food: 9, Crew: trio, Past: pastOf("s.s")}
			if got := impl.IsParty(x, p); got != (kind != impl.LdRock) {
				t.Errorf("IsParty(%s, %v) is %v", drawingOf(x), p, got)
			}
		}
	}
	for _, x := range drawnLands {
		for _, n := range badCells(len(x.Cells)) {
			if impl.IsParty(x, impl.Party{At: n, Food: 9, Crew: trio}) {
				t.Errorf("IsParty(%s) at %d is true", drawingOf(x), n)
			}
		}
	}
	for _, x := range badLands() {
		for _, n := range []int{0, 1, -1} {
			if impl.IsParty(x, impl.Party{At: n, Food: 9, Crew: trio}) {
				t.Errorf("IsParty(%.80v) at %d is true", x, n)
			}
		}
	}
}

func TestEat(t *testing.T) {
	cases := []struct {
		name string
		p    impl.Party
		food int
		ok   bool
	}{
		{"enough", hikersWith(10), 7, true},
		{"just enough", hikersWith(3), 0, true},
		{"one unit less", hikersWith(2), 2, false},
		{"nothing", hikersWith(0), 0, false},
		{"one unit more", hikersWith(4), 1, true},
		{"less than nothing", hikersWith(-1), -1, false},
		{"far less than nothing", hikersWith(-3), -3, false},
		{"as much as may be", hikersWith(10000), 9997, true},
		{"more than may be", hikersWith(10001), 9998, true},
		{"the greatest int", hikersWith(math.MaxInt), math.MaxInt - 3, true},
		{"the least int", hikersWith(math.MinInt), math.MinInt, false},
		{"the ill eat too", crewWith(trio, 6), 0, true},
		{"the ill eat too, one unit less", crewWith(trio, 5), 5, false},
		{"all are ill", crewWith(sick, 20), 4, true},
		{"all are ill, one unit less", crewWith(sick, 15), 15, false},
		{"more than they can carry", crewWith(weak, 30), 20, true},
		{"one who needs one", crewWith([]impl.Member{well(1, 0, 1)}, 1), 0, true},
		{"eight who need ten", crewWith(strong, 80), 0, true},
		{"eight who need ten, one unit less", crewWith(strong, 79), 79, false},
		{"nobody", crewWith(nil, 9), 9, false},
		{"nobody, nothing", crewWith(nil, 0), 0, false},
		{"nobody, less than nothing", crewWith(nil, -9), -9, false},
		{"a crew that is not valid", crewWith([]impl.Member{well(2, 5, 1), well(1, 5, 1)}, 9), 9, false},
		{"no cell", impl.Party{At: -5, Food: 9, Crew: pair}, 6, true},
		{"more days than may be", impl.Party{Food: 9, Crew: pair, Past: make([]bool, 11)}, 6, true},
	}
	for _, c := range cases {
		want := c.p
		want.Food = c.food
		if got, ok := impl.Eat(c.p); ok != c.ok || !sameParty(got, want) {
			t.Errorf("%s: Eat(%v) is %v and %v", c.name, c.p, got, ok)
		}
	}
}

func TestEatAndDaysOfFoodOfAnyCrew(t *testing.T) {
	for _, l := range goodCrews() {
		for _, food := range anyFoods(l) {
			p := impl.Party{At: 9, Food: food, Crew: l, Past: pastOf("..s")}
			want, wantOk, days := p, food >= needOf(l), 0
			if wantOk {
				want.Food -= needOf(l)
			}
			if food > 0 {
				days = food / needOf(l)
			}
			if got, ok := impl.Eat(p); ok != wantOk || !sameParty(got, want) {
				t.Errorf("Eat(%v) is %v and %v", p, got, ok)
			}
			if got := impl.DaysOfFood(p); got != days {
				t.Errorf("DaysOfFood(%v) is %d, not %d", p, got, days)
			}
		}
	}
	for _, l := range badCrews() {
		for _, food := range edgeFoods {
			p := impl.Party{At: 9, Food: food, Crew: l, Past: pastOf("..s")}
			if got, ok := impl.Eat(p); ok || !sameParty(got, p) {
				t.Errorf("Eat(%v) is %v and %v", p, got, ok)
			}
			if got := impl.DaysOfFood(p); got != 0 {
				t.Errorf("DaysOfFood(%v) is %d", p, got)
			}
		}
	}
}

func TestFoodLastsItsDays(t *testing.T) {
	for _, l := range goodCrews() {
		for _, food := range []int{0, 1, 9, 10, 11, 100, 333, 800} {
			p := impl.Party{At: 4, Food: food, Crew: l, Past: pastOf("s.")}
			days := 0
			for rest, ok := impl.Eat(p); ok; rest, ok = impl.Eat(rest) {
				days++
				if rest.Food != food-days*needOf(l) || impl.DaysOfFood(rest) != impl.DaysOfFood(p)-days {
					t.Errorf("%v has %d on the day %d, for %d days", p, rest.Food, days, impl.DaysOfFood(rest))
				}
			}
			if got := impl.DaysOfFood(p); got != days {
				t.Errorf("DaysOfFood(%v) is %d, and it eats on %d", p, got, days)
			}
		}
	}
}

func TestDaysOfFood(t *testing.T) {
	cases := []struct {
		name string
		p    impl.Party
		want int
	}{
		{"rounded down", hikersWith(10), 3},
		{"not rounded", hikersWith(9), 3},
		{"one unit less", hikersWith(8), 2},
		{"one day", hikersWith(3), 1},
		{"no day", hikersWith(2), 0},
		{"nothing", hikersWith(0), 0},
		{"less than nothing", hikersWith(-1), 0},
		{"less than nothing for a day", hikersWith(-9), 0},
		{"as much as may be", hikersWith(10000), 3333},
		{"more than may be", hikersWith(10002), 3334},
		{"the greatest int", hikersWith(math.MaxInt), math.MaxInt / 3},
		{"the least int", hikersWith(math.MinInt), 0},
		{"the ill eat too", crewWith(trio, 12), 2},
		{"all are ill", crewWith(sick, 31), 1},
		{"nobody", crewWith(nil, 9), 0},
		{"a crew that is not valid", crewWith([]impl.Member{well(1, 5, 1), well(1, 5, 1)}, 9), 0},
	}
	for _, c := range cases {
		if got := impl.DaysOfFood(c.p); got != c.want {
			t.Errorf("%s: DaysOfFood(%v) is %d, not %d", c.name, c.p, got, c.want)
		}
	}
}

func TestRoomFor(t *testing.T) {
	cases := []struct {
		name string
		p    impl.Party
		want int
	}{
		{"some", hikersWith(10), 22},
		{"all", hikersWith(0), 32},
		{"one unit", hikersWith(31), 1},
		{"none", hikersWith(32), 0},
		{"more than it can carry", hikersWith(33), 0},
		{"far more than it can carry", hikersWith(10000), 0},
		{"less than nothing", hikersWith(-1), 0},
		{"the greatest int", hikersWith(math.MaxInt), 0},
		{"the least int", hikersWith(math.MinInt), 0},
		{"the least int but a few", hikersWith(math.MinInt + 32), 0},
		{"the ill do not carry", crewWith(trio, 10), 30},
		{"all are ill", crewWith(sick, 0), 0},
		{"all are ill, with food", crewWith(sick, 5), 0},
		{"all are weak", crewWith(weak, 0), 0},
		{"as much as may be", crewWith(strong, 0), 800},
		{"nobody", crewWith(nil, 0), 0},
		{"nobody, with food", crewWith(nil, 9), 0},
		{"a crew that is not valid", crewWith([]impl.Member{well(1, 5, 1), well(1, 5, 1)}, 0), 0},
		{"no cell", impl.Party{At: -5, Food: 9, Crew: pair}, 23},
	}
	for _, c := range cases {
		if got := impl.RoomFor(c.p); got != c.want {
			t.Errorf("%s: RoomFor(%v) is %d, not %d", c.name, c.p, got, c.want)
		}
	}
}

func TestPickUp(t *testing.T) {
	cases := []struct {
		name    string
		p       impl.Party
		n, want int
	}{
		{"some", hikersWith(10), 5, 5},
		{"one unit", hikersWith(10), 1, 1},
		{"one less than the room", hikersWith(10), 21, 21},
		{"just the room", hikersWith(10), 22, 22},
		{"one more than the room", hikersWith(10), 23, 22},
		{"far more than the room", hikersWith(10), 5000, 22},
		{"the greatest int", hikersWith(10), math.MaxInt, 22},
		{"nothing", hikersWith(10), 0, 0},
		{"less than nothing", hikersWith(10), -1, 0},
		{"far less than nothing", hikersWith(10), -50, 0},
		{"the least int", hikersWith(10), math.MinInt, 0},
		{"with no room", hikersWith(32), 5, 0},
		{"carrying more than it can", hikersWith(40), 5, 0},
		{"carrying more than it can, less than nothing", hikersWith(40), -5, 0},
		{"with less food than nothing", hikersWith(-1), 5, 0},
		{"with the least int of food", hikersWith(math.MinInt), math.MaxInt, 0},
		{"with the greatest int of food", hikersWith(math.MaxInt), math.MaxInt, 0},
		{"all are ill", crewWith(sick, 0), 5, 0},
		{"one is ill", crewWith(trio, 10), 50, 30},
		{"as much as may be", crewWith(strong, 0), 801, 800},
		{"nobody", crewWith(nil, 0), 5, 0},
		{"a crew that is not valid", crewWith([]impl.Member{well(1, 50, 1), well(1, 50, 1)}, 0), 5, 0},
		{"no cell", impl.Party{At: -5, Food: 9, Crew: pair}, 3, 3},
	}
	for _, c := range cases {
		want := c.p
		want.Food += c.want
		if got, n := impl.PickUp(c.p, c.n); n != c.want || !sameParty(got, want) {
			t.Errorf("%s: PickUp(%v, %d) is %v and %d", c.name, c.p, c.n, got, n)
		}
	}
}

func TestAPartyTakesUpNoMoreThanItCanCarry(t *testing.T) {
	for _, l := range append(goodCrews(), badCrews()...) {
		load := impl.CapOf(l)
		for _, food := range anyFoods(l) {
			p := impl.Party{At: 2, Food: food, Crew: l, Past: pastOf("s..")}
			room := 0
			if 0 <= food && food < load {
				room = load - food
			}
			if got := impl.RoomFor(p); got != room {
				t.Errorf("RoomFor(%v) is %d, not %d", p, got, room)
			}
			for _, n := range append(anyFoods(l), room-1, room, room+1) {
				checkPickUp(t, p, n, max(0, min(n, room)))
			}
		}
	}
}

// checkPickUp checks that a party takes up just so much of n.
func checkPickUp(t *testing.T, p impl.Party, n int, want int) {
	t.Helper()
	after := p
	after.Food += want
	got, taken := impl.PickUp(p, n)
	if taken != want || !sameParty(got, after) {
		t.Errorf("PickUp(%v, %d) is %v and %d, not %d", p, n, got, taken, want)
	}
	if got.Food > max(p.Food, impl.CapOf(p.Crew)) {
		t.Errorf("PickUp(%v, %d) is %v, more than it can carry", p, n, got)
	}
	if again, more := impl.PickUp(got, math.MaxInt); n > want && (more != 0 || !sameParty(again, got)) {
		t.Errorf("PickUp(%v, %d) is %v, and there is room for %d more", p, n, got, more)
	}
}

func TestEqualParties(t *testing.T) {
	change := func(spoil func(p *impl.Party)) impl.Party {
		p := impl.Party{At: 12, Food: 10, Crew: slices.Clone(trio), Past: pastOf("s..")}
		spoil(&p)
		return p
	}
	different := []impl.Party{
		{},
		change(func(p *impl.Party) {}),
		change(func(p *impl.Party) { p.At = 13 }),
		change(func(p *impl.Party) { p.At = -12 }),
		change(func(p *impl.Party) { p.Food = 9 }),
		change(func(p *impl.Party) { p.Food = -10 }),
		change(func(p *impl.Party) { p.At, p.Food = 10, 12 }),
		change(func(p *impl.Party) { p.At, p.Food = math.MaxInt, math.MinInt }),
		change(func(p *impl.Party) { p.Crew[0].Id = 2 }),
		change(func(p *impl.Party) { p.Crew[0].Strength = 21 }),
		change(func(p *impl.Party) { p.Crew[1].Need = 4 }),
		change(func(p *impl.Party) { p.Crew[1].Ill = false }),
		change(func(p *impl.Party) { p.Crew[2].Id = 7 }),
		change(func(p *impl.Party) { p.Crew[2].Ill = true }),
		change(func(p *impl.Party) { p.Crew = p.Crew[:2] }),
		change(func(p *impl.Party) { p.Crew = p.Crew[1:] }),
		change(func(p *impl.Party) { p.Crew[0], p.Crew[1] = p.Crew[1], p.Crew[0] }),
		change(func(p *impl.Party) { p.Crew = append(p.Crew, impl.Member{}) }),
		change(func(p *impl.Party) { p.Crew = nil }),
		change(func(p *impl.Party) { p.Past[0] = false }),
		change(func(p *impl.Party) { p.Past[1] = true }),
		change(func(p *impl.Party) { p.Past[2] = true }),
		change(func(p *impl.Party) { p.Past = p.Past[:2] }),
		change(func(p *impl.Party) { p.Past = append(p.Past, false) }),
		change(func(p *impl.Party) { p.Past = append([]bool{false}, p.Past...) }),
		change(func(p *impl.Party) { p.Past = nil }),
		change(func(p *impl.Party) { p.Crew, p.Past = nil, nil }),
		{At: 12},
		{Food: 12},
	}
	for i, a := range different {
		for k, b := range different {
			b.Crew, b.Past = slices.Clone(b.Crew), slices.Clone(b.Past)
			if got := impl.EqualParties(a, b); got != (i == k) {
				t.Errorf("EqualParties(%v, %v) is %v", a, b, got)
			}
		}
	}
}

func TestNilAndEmptyListsOfPartiesAreEqual(t *testing.T) {
	a, b := impl.Party{At: 3, Food: 4}, impl.Party{At: 3, Food: 4, Crew: []impl.Member{}, Past: []bool{}}
	if !impl.EqualParties(a, b) || !impl.EqualParties(b, a) || !impl.EqualParties(a, a) || !impl.EqualParties(b, b) {
		t.Error("parties of nil and empty lists are not equal")
	}
	a.Past, b.Crew = []bool{}, nil
	if !impl.EqualParties(a, b) || !impl.EqualParties(b, a) {
		t.Error("parties of a nil list and an empty one are not equal")
	}
}

func TestPartiesStayAsTheyWere(t *testing.T) {
	cells := guard(camp.Cells...)
	x := impl.Land{W: camp.W, H: camp.H, Cells: cells.list}
	for _, l := range append(badCrews()[:20], namedCrews...) {
		for _, food := range []int{-1, 0, 1, 10, 10000, 10001} {
			g := guardParty(impl.Party{At: 12, Food: food, Crew: l, Past: pastOf("s..s.")})
			checkOwnParty(t, "Eat", g, func() impl.Party {
				after, _ := impl.Eat(g.party)
				return after
			})
			for _, n := range []int{-1, 0, 1, 1000} {
				checkOwnParty(t, "PickUp", g, func() impl.Party {
					after, _ := impl.PickUp(g.party, n)
					return after
				})
			}
			impl.IsParty(x, g.party)
			impl.DaysOfFood(g.party)
			impl.RoomFor(g.party)
			impl.EqualParties(g.party, g.party)
			g.check(t, "the functions of parties")
			cells.check(t, "the land")
		}
	}
}

func TestPartiesKeepNoState(t *testing.T) {
	p := impl.Party{At: 12, Food: 10, Crew: slices.Clone(pair)}
	first, _ := impl.Eat(p)
	p.Food, p.Crew[0].Need = 20, 7
	second, _ := impl.Eat(p)
	p.Crew[0].Strength, p.Crew[1].Ill = 30, true
	third, n := impl.PickUp(p, 99)
	if first.Food != 7 || second.Food != 12 || third.Food != 30 || n != 10 {
		t.Errorf("while the party changes, Eat and PickUp give %v, %v and %v", first, second, third)
	}
}
