package tests

import (
	"math"
	"slices"
	"testing"

	"loop.example/g03008/impl"
)

func (s scene) mayLay(n int) bool {
	return impl.MayLay(s.x, s.base, s.r, s.l, s.p, n)
}

func (s scene) layStep(n int) (impl.Party, []impl.Depot, bool) {
	return impl.LayStep(s.x, s.base, s.r, s.l, s.p, n)
}

func (s scene) takeStep(n int) (impl.Party, []impl.Depot, bool) {
	return impl.TakeStep(s.x, s.base, s.r, s.l, s.p, n)
}

func (s scene) mostToLay() int {
	return impl.MostToLay(s.x, s.base, s.r, s.l, s.p)
}

// withMoreFood is the party of a scene with so much more food.
func (s scene) withMoreFood(n int) impl.Party {
	p := s.p
	p.Food += n
	return p
}

// layStepOf is LayStep in a valid land.
func (s scene) layStepOf(n int) (impl.Party, []impl.Depot, bool) {
	if s.leftOf() < 0 || n < 1 || n > s.p.Food {
		return s.p, s.l, false
	}
	l, ok := layOf(s.x, s.l, s.p.At, n)
	p := s.withMoreFood(-n)
	if !ok || s.with(l, p).leftOf() < 0 {
		return s.p, s.l, false
	}
	return p, l, true
}

// takeStepOf is TakeStep in a valid land.
func (s scene) takeStepOf(n int) (impl.Party, []impl.Depot, bool) {
	if s.leftOf() < 0 || n > max(0, capOf(s.p.Crew)-s.p.Food) {
		return s.p, s.l, false
	}
	l, ok := takeOf(s.x, s.l, s.p.At, n)
	if !ok {
		return s.p, s.l, false
	}
	return s.withMoreFood(n), l, true
}

// checkLay checks MayLay and LayStep, which is possible where that holds.
func checkLay(t *testing.T, name string, s scene, n int, p impl.Party, l []impl.Depot, want bool) {
	t.Helper()
	if got := s.mayLay(n); got != want {
		t.Errorf("%s: MayLay(%s, %d, %v, %v, %v, %d) is %v", name, drawingOf(s.x), s.base, s.r, s.l, s.p, n, got)
	}
	if gotParty, gotDepots, ok := s.layStep(n); ok != want || !sameParty(gotParty, p) || !slices.Equal(gotDepots, l) {
		t.Errorf("%s: LayStep(%s, %d, %v, %v, %v, %d) is %v, %v and %v, not %v, %v and %v", name, drawingOf(s.x), s.base, s.r, s.l, s.p, n, gotParty, gotDepots, ok, p, l, want)
	}
}

func checkTake(t *testing.T, name string, s scene, n int, p impl.Party, l []impl.Depot, want bool) {
	t.Helper()
	if gotParty, gotDepots, ok := s.takeStep(n); ok != want || !sameParty(gotParty, p) || !slices.Equal(gotDepots, l) {
		t.Errorf("%s: TakeStep(%s, %d, %v, %v, %v, %d) is %v, %v and %v, not %v, %v and %v", name, drawingOf(s.x), s.base, s.r, s.l, s.p, n, gotParty, gotDepots, ok, p, l, want)
	}
}

func checkMost(t *testing.T, name string, s scene, want int) {
	t.Helper()
	if got := s.mostToLay(); got != want {
		t.Errorf("%s: MostToLay(%s, %d, %v, %v, %v) is %d, not %d", name, drawingOf(s.x), s.base, s.r, s.l, s.p, got, want)
	}
}

// manyScene has 20 depots and a party at a cell, at the base or beside it.
func manyScene(at int, food int) scene {
	return scene{x: plain, base: 1, r: calm, l: manyDepots, p: impl.Party{At: at, Food: food, Crew: pair}}
}

// changeCase is what LayStep or TakeStep is given, and the depots that it leaves
// where it succeeds.
type changeCase struct {
	name   string
	s      scene
	n      int
	depots [][2]int
	ok     bool
}

func TestLayStep(t *testing.T) {
	cases := []changeCase{
		{"a new depot", campScene(12, 25, ""), 7, [][2]int{{12, 7}}, true},
		{"one unit", campScene(12, 25, ""), 1, [][2]int{{12, 1}}, true},
		{"to a depot", campScene(12, 25, "", [2]int{12, 5}), 7, [][2]int{{12, 12}}, true},
		{"before other depots", campScene(0, 25, "", [2]int{5, 1}, [2]int{12, 5}), 7, [][2]int{{0, 7}, {5, 1}, {12, 5}}, true},
		{"between other depots", campScene(12, 25, "", [2]int{5, 1}, [2]int{13, 5}), 7, [][2]int{{5, 1}, {12, 7}, {13, 5}}, true},
		{"behind other depots", campScene(12, 25, "", [2]int{5, 1}), 7, [][2]int{{5, 1}, {12, 7}}, true},
		{"nothing", campScene(12, 25, ""), 0, nil, false},
		{"less than nothing", campScene(12, 25, ""), -1, nil, false},
		{"the greatest int", campScene(12, 25, ""), math.MaxInt, nil, false},
		{"the least int", campScene(12, 25, ""), math.MinInt, nil, false},
		{"all of its food, which it takes up again", campScene(12, 25, ""), 25, [][2]int{{12, 25}}, true},
		{"all of its food, one unit more", campScene(12, 25, ""), 26, nil, false},
		{"all of its food but one unit", campScene(12, 25, ""), 24, [][2]int{{12, 24}}, true},
		{"what it needs for the way home", campScene(12, 18, ""), 18, [][2]int{{12, 18}}, true},
		{"from less than it needs for the way home", campScene(12, 17, ""), 1, nil, false},
		// From the cell 19 it needs 33, one unit more than it can take up again.
		{"all but what it needs", campScene(19, 40, ""), 7, [][2]int{{19, 7}}, true},
		{"one unit of what it needs", campScene(19, 40, ""), 8, nil, false},
		{"all that it needs", campScene(19, 40, ""), 40, nil, false},
		{"all, where it finds one unit on the way", campScene(19, 40, "", [2]int{3, 1}), 40, [][2]int{{3, 1}, {19, 40}}, true},
		{"all but what it needs, where nobody can carry", campScene(12, 100, "").withCrew(sick), 4, [][2]int{{12, 4}}, true},
		{"one unit of what it needs, where nobody can carry", campScene(12, 100, "").withCrew(sick), 5, nil, false},
		{"at the base", campScene(0, 25, ""), 25, [][2]int{{0, 25}}, true},
		{"at the base, as much as may be", campScene(0, 10000, ""), 10000, [][2]int{{0, 10000}}, true},
		{"at the base, where nobody can carry", campScene(0, 9, "").withCrew(sick), 9, [][2]int{{0, 9}}, true},
		{"so that a depot is full", campScene(12, 25, "", [2]int{12, 9990}), 10, [][2]int{{12, 10000}}, true},
		{"one unit too many for a depot", campScene(12, 25, "", [2]int{12, 9990}), 11, nil, false},
		{"to a full depot", campScene(12, 25, "", [2]int{12, 10000}), 1, nil, false},
	}
	for _, c := range cases {
		p, l := c.s.p, c.s.l
		if c.ok {
			p, l = c.s.withMoreFood(-c.n), depotsOf(c.depots...)
		}
		checkLay(t, c.name, c.s, c.n, p, l, c.ok)
	}
}

func TestTakeStep(t *testing.T) {
	cases := []changeCase{
		{"a part of a depot", campScene(12, 20, "", [2]int{12, 40}), 5, [][2]int{{12, 35}}, true},
		{"one unit", campScene(12, 20, "", [2]int{12, 40}), 1, [][2]int{{12, 39}}, true},
		{"all of a depot", campScene(12, 20, "", [2]int{12, 7}), 7, nil, true},
		{"all of a depot of one unit", campScene(12, 20, "", [2]int{12, 1}), 1, nil, true},
		{"all but one unit", campScene(12, 20, "", [2]int{12, 7}), 6, [][2]int{{12, 1}}, true},
		{"one unit more than there is", campScene(12, 20, "", [2]int{12, 7}), 8, nil, false},
		{"just what finds room", campScene(12, 25, "", [2]int{12, 40}), 7, [][2]int{{12, 33}}, true},
		{"one unit more than finds room", campScene(12, 25, "", [2]int{12, 40}), 8, nil, false},
		{"all, which just finds room", campScene(12, 25, "", [2]int{12, 7}), 7, nil, true},
		{"as much as it can carry", campScene(0, 0, "", [2]int{0, 32}), 32, nil, true},
		{"with no room", campScene(12, 32, "", [2]int{12, 40}), 1, nil, false},
		{"carrying more than it can", campScene(12, 33, "", [2]int{12, 40}), 1, nil, false},
		{"where nobody can carry", campScene(12, 100, "", [2]int{12, 40}).withCrew(sick), 1, nil, false},
		{"one of several depots", campScene(12, 20, "", [2]int{10, 3}, [2]int{12, 7}, [2]int{13, 3}), 7, [][2]int{{10, 3}, {13, 3}}, true},
		{"from a depot elsewhere", campScene(12, 20, "", [2]int{11, 7}), 1, nil, false},
		{"from no depots", campScene(12, 20, ""), 1, nil, false},
		{"nothing", campScene(12, 20, "", [2]int{12, 7}), 0, nil, false},
		{"less than nothing", campScene(12, 20, "", [2]int{12, 7}), -1, nil, false},
		{"the greatest int", campScene(12, 20, "", [2]int{12, 7}), math.MaxInt, nil, false},
		{"the least int", campScene(12, 20, "", [2]int{12, 7}), math.MinInt, nil, false},
		{"what it needs for the way home", campScene(12, 0, "", [2]int{12, 18}), 18, nil, true},
		{"from a depot that is not enough for the way home", campScene(12, 0, "", [2]int{12, 17}), 17, nil, false},
		{"at the base", campScene(0, 3, "", [2]int{0, 7}), 7, nil, true},
	}
	for _, c := range cases {
		p, l := c.s.p, c.s.l
		if c.ok {
			p, l = c.s.withMoreFood(c.n), depotsOf(c.depots...)
		}
		checkTake(t, c.name, c.s, c.n, p, l, c.ok)
	}
}

func TestMostToLay(t *testing.T) {
	cases := []struct {
		name string
		s    scene
		want int
	}{
		{"all of its food, which it takes up again", campScene(12, 25, ""), 25},
		{"just what it needs", campScene(12, 18, ""), 18},
		{"less than it needs", campScene(12, 17, ""), 0},
		{"all but what it needs", campScene(19, 40, ""), 7},
		{"nothing, as it needs all", campScene(19, 33, ""), 0},
		{"nothing, as it cannot return", campScene(19, 32, ""), 0},
		{"one unit", campScene(19, 34, ""), 1},
		{"all, where it finds one unit on the way", campScene(19, 40, "", [2]int{3, 1}), 40},
		{"where nobody can carry", campScene(12, 100, "").withCrew(sick), 4},
		{"where nobody can carry, nothing", campScene(12, 96, "").withCrew(sick), 0},
		{"at the base", campScene(0, 25, ""), 25},
		{"at the base, nothing", campScene(0, 0, ""), 0},
		{"at the base, as much as may be", campScene(0, 10000, ""), 10000},
		{"with nothing but a depot", campScene(12, 0, "", [2]int{12, 30}), 0},
		{"so that a depot is full", campScene(12, 25, "", [2]int{12, 9990}), 10},
		{"to a full depot", campScene(12, 25, "", [2]int{12, 10000}), 0},
		{"to a depot that nearly is", campScene(12, 25, "", [2]int{12, 9999}), 1},
		{"to a depot of 20", manyScene(3, 25), 25},
		{"to a new one beside 20", manyScene(2, 25), 0},
		{"as much as may be, very far", campScene(19, 10000, ""), 9967},
	}
	for _, c := range cases {
		checkMost(t, c.name, c.s, c.want)
	}
}

// What is laid and taken up again leaves as much on the way home, however much it
// was; and what finds no room again gets less with each unit. So in each of these
// scenes, as in all strewn ones, the numbers that may be laid are the lesser ones.
func TestMayLayOfEachNumber(t *testing.T) {
	cases := []struct {
		name string
		s    scene
		most int
	}{
		{"all of it is taken up again", campScene(12, 25, ""), 25},
		{"more than it can carry, and more than it needs", campScene(12, 60, ""), 60},
		{"more than it can carry, with a depot that finds no room", campScene(12, 60, "", [2]int{12, 50}), 60},
		{"what it needs is more than it can carry", campScene(19, 60, ""), 27},
		{"what it needs is more than it can carry, with a depot there", campScene(19, 60, "", [2]int{19, 50}), 27},
		{"what it needs is more than it can carry, with a depot on the way", campScene(19, 60, "", [2]int{3, 1}), 60},
		{"what it needs is more than it can carry, without storms", campScene(19, 60, "").withRule(calm), 60},
		{"nobody can carry", campScene(12, 120, "").withCrew(sick), 24},
		{"nothing to spare", campScene(19, 33, ""), 0},
		{"a depot that is nearly full", campScene(12, 60, "", [2]int{12, 9950}), 50},
	}
	for _, c := range cases {
		for n := -2; n <= c.s.p.Food+2; n++ {
			if got := c.s.mayLay(n); got != (1 <= n && n <= c.most) {
				t.Errorf("%s: MayLay(%v, %v, %d) is %v", c.name, c.s.l, c.s.p, n, got)
			}
		}
		checkMost(t, c.name, c.s, c.most)
	}
	for s := range strewnScenes(1000) {
		most := s.mostToLayOf()
		for n := 1; n <= s.p.Food; n++ {
			if got := s.mayLay(n); got != (n <= most) {
				t.Errorf("MayLay(%s, %d, %v, %v, %v, %d) is %v", drawingOf(s.x), s.base, s.r, s.l, s.p, n, got)
			}
		}
	}
}

func TestLayingBesideTwentyDepots(t *testing.T) {
	for cell := range 64 {
		s := manyScene(cell, 60)
		for _, n := range []int{1, 2, 60} {
			p, l, ok := s.layStepOf(n)
			checkLay(t, "beside 20", s, n, p, l, ok)
			if _, found := placeOf(manyDepots, cell); !found && ok {
				t.Errorf("at %d, a new depot is laid beside 20", cell)
			}
		}
		p, l, ok := s.takeStepOf(1)
		checkTake(t, "of 20", s, 1, p, l, ok)
	}
}

func TestLayingAndTakingOfStrewnParties(t *testing.T) {
	throw := dice()
	laid, taken := 0, 0
	for s := range strewnScenes(5000) {
		for _, n := range []int{math.MinInt, -1, 0, 1, 2, throw(40), throw(1 + s.p.Food), s.p.Food - 1, s.p.Food, s.p.Food + 1, math.MaxInt} {
			p, l, ok := s.layStepOf(n)
			checkLay(t, "strewn", s, n, p, l, ok)
			if ok {
				laid++
			}
			p, l, ok = s.takeStepOf(n)
			checkTake(t, "strewn", s, n, p, l, ok)
			if ok {
				taken++
			}
		}
	}
	if laid < 5000 || taken < 1000 {
		t.Errorf("only %d are laid and %d taken", laid, taken)
	}
}

// mostToLayOf is MostToLay in a valid land, told by trying every number.
func (s scene) mostToLayOf() int {
	most := 0
	for n := 1; n <= s.p.Food; n++ {
		if _, _, ok := s.layStepOf(n); ok {
			most = n
		}
	}
	return most
}

func TestMostToLayOfStrewnParties(t *testing.T) {
	all, some, none := 0, 0, 0
	for s := range strewnScenes(4000) {
		most := s.mostToLayOf()
		checkMost(t, "strewn", s, most)
		switch most {
		case 0:
			none++
		case s.p.Food:
			all++
		default:
			some++
		}
	}
	if all < 300 || some < 100 || none < 300 {
		t.Errorf("%d may lay all, %d some of it, %d nothing", all, some, none)
	}
}

func TestLayingAndTakingLosesNoFood(t *testing.T) {
	laid, taken := 0, 0
	for s := range strewnScenes(5000) {
		all := impl.FoodInAll(s.l, s.p)
		for _, n := range []int{1, 2, 5, 9, s.p.Food / 2, s.p.Food} {
			if p, l, ok := s.layStep(n); ok {
				laid++
				checkSameFood(t, s, p, l, all, -n)
				back, depots, ok := s.with(l, p).takeStep(n)
				if ok && (!sameParty(back, s.p) || !slices.Equal(depots, s.l)) {
					t.Errorf("%d laid and taken again by %v beside %v gives %v and %v", n, s.p, s.l, back, depots)
				}
				if ok != (n <= impl.RoomFor(p)) {
					t.Errorf("%d laid by %v beside %v can be taken again: %v", n, s.p, s.l, ok)
				}
			}
			if p, l, ok := s.takeStep(n); ok {
				taken++
				checkSameFood(t, s, p, l, all, n)
			}
		}
	}
	if laid < 3000 || taken < 1000 {
		t.Errorf("only %d are laid and %d taken", laid, taken)
	}
}

// checkSameFood checks what becomes of a scene when the party has n more.
func checkSameFood(t *testing.T, s scene, p impl.Party, l []impl.Depot, all int, n int) {
	t.Helper()
	if got := impl.FoodInAll(l, p); got != all {
		t.Errorf("%v and %v have %d, and %v and %v have %d", s.p, s.l, all, p, l, got)
	}
	if p.Food-s.p.Food != n || impl.FoodAt(s.l, p.At)-impl.FoodAt(l, p.At) != n {
		t.Errorf("%d are moved from %v and %v, which gives %v and %v", n, s.l, s.p, l, p)
	}
}

func TestWhoeverLaysCanStillReturn(t *testing.T) {
	for s := range strewnScenes(4000) {
		n := s.mostToLay()
		if n > 0 != s.mayLay(n) {
			t.Errorf("MostToLay(%s, %d, %v, %v, %v) is %d, and MayLay is %v", drawingOf(s.x), s.base, s.r, s.l, s.p, n, n == 0)
		}
		if p, l, ok := s.layStep(n); ok && !s.with(l, p).canReturn() {
			t.Errorf("after %d are laid in %s, to %d, with %v, %v and %v cannot return", n, drawingOf(s.x), s.base, s.r, p, l)
		}
	}
}

func TestFoodInAll(t *testing.T) {
	cases := []struct {
		name string
		l    []impl.Depot
		food int
		want int
	}{
		{"nothing", nil, 0, 0},
		{"a party", nil, 7, 7},
		{"a party without depots", []impl.Depot{}, 7, 7},
		{"depots", depotsOf([2]int{3, 5}, [2]int{4, 6}), 0, 11},
		{"both", depotsOf([2]int{3, 5}, [2]int{4, 6}), 7, 18},
		{"as much as may be", depotsOf([2]int{3, 10000}), 10000, 20000},
		{"a party with too much", nil, 10001, 10000},
		{"a party with less than nothing", depotsOf([2]int{3, 5}), -1, 5},
		{"a party with the greatest int", depotsOf([2]int{3, 5}), math.MaxInt, 10005},
		{"a party with the least int", depotsOf([2]int{3, 5}), math.MinInt, 5},
		{"a depot with too much", depotsOf([2]int{3, 10001}), 7, 10007},
		{"a depot with less than nothing", depotsOf([2]int{3, -1}, [2]int{4, 3}), 7, 10},
		{"depots with the greatest and the least int", depotsOf([2]int{3, math.MaxInt}, [2]int{4, math.MinInt}), 7, 10007},
		{"all of the greatest int", depotsOf([2]int{3, math.MaxInt}), math.MaxInt, 20000},
		{"all of the least int", depotsOf([2]int{3, math.MinInt}), math.MinInt, 0},
		{"depots that are not valid", depotsOf([2]int{-3, 5}, [2]int{-3, 5}), 7, 17},
		{"20 depots", manyDepots, 9, 30169},
		{"more depots than there may be", append(slices.Clone(manyDepots), manyDepots...), 9, 60329},
	}
	for _, c := range cases {
		for _, p := range []impl.Party{{Food: c.food}, {At: 12, Food: c.food, Crew: pair, Past: pastOf("s.")}, {At: -5, Food: c.food, Crew: badCrews()[5]}} {
			if got := impl.FoodInAll(c.l, p); got != c.want {
				t.Errorf("%s: FoodInAll(%v, %v) is %d, not %d", c.name, c.l, p, got, c.want)
			}
		}
	}
}

func TestNobodyLaysOrTakesInBadScenes(t *testing.T) {
	for name, s := range badScenes() {
		for _, n := range []int{1, 5, 7, 0, -1, math.MaxInt, math.MinInt} {
			if s.mayLay(n) {
				t.Errorf("%s: MayLay(%.80v, %d, %v, %v, %v, %d) is true", name, s.x, s.base, s.r, s.l, s.p, n)
			}
			if p, l, ok := s.layStep(n); ok || !sameParty(p, s.p) || !slices.Equal(l, s.l) {
				t.Errorf("%s: LayStep(%.80v, %d, %v, %v, %v, %d) is %v, %v and %v", name, s.x, s.base, s.r, s.l, s.p, n, p, l, ok)
			}
			if p, l, ok := s.takeStep(n); ok || !sameParty(p, s.p) || !slices.Equal(l, s.l) {
				t.Errorf("%s: TakeStep(%.80v, %d, %v, %v, %v, %d) is %v, %v and %v", name, s.x, s.base, s.r, s.l, s.p, n, p, l, ok)
			}
		}
		if got := s.mostToLay(); got != 0 {
			t.Errorf("%s: MostToLay(%.80v, %d, %v, %v, %v) is %d", name, s.x, s.base, s.r, s.l, s.p, got)
		}
	}
}

func TestLayingAndTakingKeepTheirArguments(t *testing.T) {
	for _, s := range keptScenes() {
		for _, n := range []int{1, 5, 7, 25, 0, -1} {
			checkOwnScene(t, "LayStep", s, func(s scene) (impl.Party, []impl.Depot) {
				p, l, _ := s.layStep(n)
				return p, l
			})
			checkOwnScene(t, "TakeStep", s, func(s scene) (impl.Party, []impl.Depot) {
				p, l, _ := s.takeStep(n)
				return p, l
			})
			g := guardScene(s)
			g.mayLay(n)
			g.mostToLay()
			impl.FoodInAll(g.scene.l, g.scene.p)
			g.check(t, "MayLay, MostToLay and FoodInAll")
		}
	}
}
