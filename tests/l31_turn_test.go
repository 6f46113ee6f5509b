package tests

import (
	"math"
	"slices"
	"testing"

	"loop.example/g03008/impl"
)

func (s scene) latestTurn() int {
	return impl.LatestTurn(s.x, s.base, s.r, s.l, s.p)
}

func (s scene) latestCalm() int {
	return impl.LatestCalm(s.x, s.base, s.r, s.l, s.p)
}

func (s scene) mustTurn() bool {
	return impl.MustTurn(s.x, s.base, s.r, s.l, s.p)
}

func (s scene) isSafeWay(way []int) bool {
	return impl.IsSafeWay(s.x, s.base, s.r, s.l, s.p, way)
}

func (s scene) safeTargets() []int {
	return impl.SafeTargets(s.x, s.base, s.r, s.l, s.p)
}

// latestOf is LatestTurn in a valid land, or LatestCalm where no storms come;
// told day by day.
func (s scene) latestOf(storms bool) int {
	for days := range 100 {
		p, ok := s.setOutOf(s.p.At, storms && mayStormOf(s.r, s.p.Past))
		if !ok {
			return days
		}
		s.p = p
	}
	return 100
}

// mustTurnOf is MustTurn in a valid land.
func (s scene) mustTurnOf() bool {
	if s.leftOf() < 0 || s.p.At == s.base || s.maySetOutOf(s.p.At) {
		return false
	}
	for _, n := range besideOf(s.x, s.p.At) {
		if s.days()[n][s.base] >= s.days()[s.p.At][s.base] && s.maySetOutOf(n) {
			return false
		}
	}
	return true
}

// isSafeWayOf is IsSafeWay in a valid land.
func (s scene) isSafeWayOf(way []int) bool {
	if s.leftOf() < 0 || len(way) == 0 || way[0] != s.p.At {
		return false
	}
	for _, n := range way[1:] {
		p, ok := s.setOutOf(n, false)
		if n == s.p.At || !ok {
			return false
		}
		s.p = p
	}
	return true
}

// safeTargetsOf is SafeTargets in a valid land.
func (s scene) safeTargetsOf() []int {
	targets := []int{}
	if s.leftOf() < 0 {
		return targets
	}
	for n, days := range s.days()[s.p.At] {
		if days >= 0 && s.stepsOnOf(n) == days {
			targets = append(targets, n)
		}
	}
	return targets
}

// checkLatest checks LatestTurn and LatestCalm.
func checkLatest(t *testing.T, name string, s scene, storms int, calmDays int) {
	t.Helper()
	if got := s.latestTurn(); got != storms {
		t.Errorf("%s: LatestTurn(%s, %d, %v, %v, %v) is %d, not %d", name, showLand(s.x), s.base, s.r, s.l, s.p, got, storms)
	}
	if got := s.latestCalm(); got != calmDays {
		t.Errorf("%s: LatestCalm(%s, %d, %v, %v, %v) is %d, not %d", name, showLand(s.x), s.base, s.r, s.l, s.p, got, calmDays)
	}
}

func checkMust(t *testing.T, name string, s scene, want bool) {
	t.Helper()
	if got := s.mustTurn(); got != want {
		t.Errorf("%s: MustTurn(%s, %d, %v, %v, %v) is %v", name, showLand(s.x), s.base, s.r, s.l, s.p, got)
	}
}

func checkSafe(t *testing.T, name string, s scene, way []int, want bool) {
	t.Helper()
	if got := s.isSafeWay(way); got != want {
		t.Errorf("%s: IsSafeWay(%s, %d, %v, %v, %v, %v) is %v", name, showLand(s.x), s.base, s.r, s.l, s.p, way, got)
	}
}

func checkTargets(t *testing.T, name string, s scene, want []int) {
	t.Helper()
	if got := s.safeTargets(); !slices.Equal(got, want) {
		t.Errorf("%s: SafeTargets(%s, %d, %v, %v, %v) are %v, not %v", name, showLand(s.x), s.base, s.r, s.l, s.p, got, want)
	}
}

func TestLatest(t *testing.T) {
	for _, c := range []struct {
		name            string
		s               scene
		storms, inCalms int
	}{
		{"two days", campScene(5, 12, ""), 2, 2},
		{"longer in storms", campScene(5, 9, ""), 2, 1},
		{"one unit less", campScene(5, 8, ""), 0, 0},
		{"just enough for the way home", campScene(12, 18, ""), 0, 0},
		{"for a day more", campScene(12, 21, ""), 1, 1},
		{"for a day more, one unit less", campScene(12, 20, ""), 0, 0},
		{"not enough for the way home", campScene(12, 17, ""), 0, 0},
		{"behind a storm", campScene(5, 6, "s"), 1, 1},
		{"behind a storm, one unit less", campScene(5, 5, "s"), 0, 0},
		{"behind a storm, until the next one may be", campScene(5, 12, "s"), 2, 2},
		{"behind a storm and a calm day", campScene(5, 9, "s."), 1, 1},
		{"without storms", campScene(5, 9, "").withRule(calm), 2, 2},
		{"nine storms in ten days", campScene(5, 60, "").withRule(nineInTen), 10, 10},
		{"nine storms in ten days, one unit less", campScene(5, 59, "").withRule(nineInTen), 9, 9},
		{"a past that breaks the rule", campScene(5, 9, "ss").withRule(oneInTen), 2, 2},
		{"at the base", campScene(0, 9, ""), 3, 3},
		{"at the base, with a rest", campScene(0, 11, ""), 3, 3},
		{"at the base, with nothing", campScene(0, 0, ""), 0, 0},
		{"at the base, with less than for a day", campScene(0, 2, ""), 0, 0},
		{"at the base, with a depot and nothing else", campScene(0, 0, "", [2]int{0, 90}), 0, 0},
		{"at the base, for 99 days", campScene(0, 299, ""), 99, 99},
		{"at the base, for 100 days", campScene(0, 300, ""), 100, 100},
		{"at the base, for 101 days", campScene(0, 303, ""), 100, 100},
		{"at the base, for 3333 days", campScene(0, 10000, ""), 100, 100},
		{"at the base, for 10000 days", campScene(0, 10000, "").withCrew(eaters(1)), 100, 100},
		{"on the way, for 99 days", campScene(5, 305, ""), 99, 99},
		{"on the way, for 100 days", campScene(5, 306, ""), 100, 100},
		{"on the way, for 101 days in storms alone", campScene(5, 308, ""), 100, 100},
		{"on the way, for far more days", campScene(12, 10000, ""), 100, 100},
		{"with a depot at its cell", campScene(12, 30, "", [2]int{12, 32}), 10, 10},
		{"with a depot at its cell that lasts for the way home alone", campScene(12, 30, "", [2]int{12, 18}), 10, 10},
		{"with a depot at its cell, one unit less there", campScene(12, 30, "", [2]int{12, 17}), 9, 9},
		{"with a depot at its cell, of one unit", campScene(12, 20, "", [2]int{12, 1}), 1, 1},
		{"with a depot at the next cell", campScene(12, 30, "", [2]int{11, 32}), 8, 8},
		{"with a depot on the way", campScene(12, 30, "", [2]int{10, 10000}), 7, 7},
		{"with a depot at the base", campScene(12, 21, "", [2]int{0, 10000}), 1, 1},
		{"with a depot elsewhere", campScene(12, 21, "", [2]int{17, 10000}), 1, 1},
		// Storms that are over before the depot would not be counted behind it,
		// where there is no room for more food.
		{"with a depot, shorter in storms", campScene(14, 18, "", [2]int{9, 32}).withRule(twoInFour), 2, 3},
		{"with a depot, far shorter in storms", campScene(14, 33, "", [2]int{9, 32}).withRule(twoInFour), 2, 8},
		{"without that depot, with as much more", campScene(14, 60, "").withRule(twoInFour), 8, 8},
		{"the ill eat, too", campScene(5, 24, "").withCrew(trio), 2, 2},
		{"from a rock", campScene(6, 90, ""), 0, 0},
		{"without a way home", scene{x: wall, base: 0, r: calm, p: crewWith(pair, 90)}.withAt(4), 0, 0},
		{"a single cell", scene{x: landOf("."), base: 0, r: calm, p: crewWith(pair, 90)}, 30, 30},
	} {
		if s := c.s; s.latestOf(true) != c.storms || s.latestOf(false) != c.inCalms {
			t.Errorf("%s: the test itself is wrong: %d and %d", c.name, s.latestOf(true), s.latestOf(false))
		}
		checkLatest(t, c.name, c.s, c.storms, c.inCalms)
	}
}

// withAt is the scene with its party at another cell.
func (s scene) withAt(n int) scene {
	s.p.At = n
	return s
}

func TestMustTurn(t *testing.T) {
	for _, c := range []struct {
		name string
		s    scene
		want bool
	}{
		{"just enough for the way home", campScene(12, 18, ""), true},
		{"too little to wait for a day", campScene(12, 20, ""), true},
		{"enough to wait for a day", campScene(12, 21, ""), false},
		{"more than enough", campScene(12, 30, ""), false},
		{"not enough for the way home", campScene(12, 17, ""), false},
		{"near the base", campScene(5, 8, ""), true},
		{"near the base, enough to wait", campScene(5, 9, ""), false},
		{"at the base, with nothing", campScene(0, 0, ""), false},
		{"at the base, with less than for a day", campScene(0, 2, ""), false},
		{"at the base, with enough", campScene(0, 90, ""), false},
		{"at another base", campScene(12, 0, "").withBase(12), false},
		{"too little to wait, but not behind a storm", campScene(5, 5, "s").withRule(oneInTen), true},
		{"enough to wait, behind a storm", campScene(5, 6, "s").withRule(oneInTen), false},
		{"on to a depot that is farther away", campScene(10, 6, "", [2]int{11, 6}).withRule(calm), false},
		{"on to a depot that has one unit less", campScene(10, 6, "", [2]int{11, 5}).withRule(calm), true},
		{"on to a depot that is farther away, the other cell", campScene(10, 6, "", [2]int{15, 6}).withRule(calm), false},
		{"on to a depot that is two cells farther away", campScene(10, 6, "", [2]int{12, 30}).withRule(calm), true},
		{"a depot that is nearer to the base", campScene(10, 6, "", [2]int{5, 30}).withRule(calm), false},
		{"a depot that is nearer to the base, too late", campScene(10, 5, "", [2]int{5, 30}).withRule(calm), true},
		{"a depot at its cell", campScene(10, 3, "", [2]int{10, 6}).withRule(calm), false},
		{"a depot at its cell, and too little to wait", campScene(10, 2, "", [2]int{10, 6}).withRule(calm), true},
		{"a depot at its cell, of one unit less", campScene(10, 3, "", [2]int{10, 5}).withRule(calm), true},
		{"at a dead end", scene{x: line, base: 0, r: calm, p: crewWith(pair, 8)}.withAt(2), true},
		{"at a dead end, enough to wait", scene{x: line, base: 0, r: calm, p: crewWith(pair, 9)}.withAt(2), false},
		{"with two ways home", scene{x: ring, base: 0, r: calm, p: crewWith(pair, 12)}.withAt(8), true},
		{"with two ways home, enough to wait", scene{x: ring, base: 0, r: calm, p: crewWith(pair, 15)}.withAt(8), false},
		{"without a way home", scene{x: wall, base: 0, r: calm, p: crewWith(pair, 90)}.withAt(4), false},
		{"from a rock", campScene(6, 18, ""), false},
	} {
		if c.s.mustTurnOf() != c.want {
			t.Errorf("%s: the test itself is wrong", c.name)
		}
		checkMust(t, c.name, c.s, c.want)
	}
}

func TestIsSafeWay(t *testing.T) {
	for _, c := range []struct {
		name string
		s    scene
		way  []int
		want bool
	}{
		{"on and on", campScene(0, 32, ""), []int{0, 5, 10, 11}, true},
		{"as far as it may", campScene(0, 30, ""), []int{0, 5, 10, 11, 12}, true},
		{"as far as it may, one unit less", campScene(0, 29, ""), []int{0, 5, 10, 11, 12}, false},
		{"one step less far", campScene(0, 29, ""), []int{0, 5, 10, 11}, true},
		{"its cell alone", campScene(0, 32, ""), []int{0}, true},
		{"its cell alone, with nothing", campScene(0, 0, ""), []int{0}, true},
		{"its cell alone, on the way", campScene(12, 18, ""), []int{12}, true},
		{"its cell alone, where it cannot return", campScene(12, 17, ""), []int{12}, false},
		{"its cell alone, twice", campScene(0, 32, ""), []int{0, 0}, false},
		{"empty", campScene(0, 32, ""), []int{}, false},
		{"nil", campScene(0, 32, ""), nil, false},
		{"it begins elsewhere", campScene(0, 32, ""), []int{5, 10}, false},
		{"it begins at the next cell alone", campScene(0, 32, ""), []int{5}, false},
		{"it begins elsewhere and comes to the party", campScene(0, 32, ""), []int{5, 0, 5}, false},
		{"a step too long", campScene(0, 32, ""), []int{0, 10}, false},
		{"a step that is none", campScene(0, 32, ""), []int{0, 5, 5}, false},
		{"a step that is none, and then back", campScene(0, 32, ""), []int{0, 5, 5, 0}, false},
		{"a step across", campScene(12, 32, ""), []int{12, 18}, false},
		{"a step to a rock", campScene(0, 32, ""), []int{0, 1, 6}, false},
		{"a step to another row", campScene(5, 32, ""), []int{5, 4}, false},
		{"a step to no cell", campScene(0, 32, ""), []int{0, -1}, false},
		{"a step to no cell, behind the last one", campScene(19, 60, ""), []int{19, 20}, false},
		{"a step to the greatest int", campScene(0, 32, ""), []int{0, math.MaxInt}, false},
		{"a step to the least int", campScene(0, 32, ""), []int{0, math.MinInt}, false},
		{"to and fro", campScene(0, 18, ""), []int{0, 5, 0, 5, 0, 5}, false},
		{"to and fro, with enough", campScene(0, 21, ""), []int{0, 5, 0, 5, 0, 5}, true},
		{"to and fro, and home", campScene(0, 18, ""), []int{0, 5, 0, 5, 0}, true},
		{"home", campScene(12, 18, ""), []int{12, 11, 10, 5, 0}, true},
		{"home, in a detour", campScene(12, 18, ""), []int{12, 13, 8, 3}, false},
		{"home, where it cannot return", campScene(12, 17, ""), []int{12, 11, 10, 5, 0}, false},
		{"on the first step alone there is too little", campScene(0, 12, ""), []int{0, 5, 10}, false},
		{"with a depot on the way", campScene(0, 21, "", [2]int{10, 30}), []int{0, 5, 10, 11, 12}, true},
		{"with a depot on the way, one unit less", campScene(0, 20, "", [2]int{10, 30}), []int{0, 5, 10, 11, 12}, false},
		{"with a depot on the way, and one step more", campScene(0, 21, "", [2]int{10, 30}), []int{0, 5, 10, 11, 12, 13}, false},
		{"without that depot", campScene(0, 21, ""), []int{0, 5, 10, 11, 12}, false},
		{"with a depot at its cell, which does not help to go", campScene(0, 3, "", [2]int{0, 30}), []int{0, 5}, false},
		{"with a depot at its cell away from the base", campScene(12, 9, "", [2]int{12, 30}), []int{12, 13, 12}, false},
		{"without storms", campScene(0, 12, "").withRule(calm), []int{0, 5, 10}, true},
		{"without a way home", scene{x: wall, base: 0, r: calm, p: crewWith(pair, 90)}.withAt(4), []int{4}, false},
		{"from a rock", campScene(6, 90, ""), []int{6}, false},
		{"from a rock to the next cell", campScene(6, 90, ""), []int{6, 1}, false},
	} {
		if c.s.isSafeWayOf(c.way) != c.want {
			t.Errorf("%s: the test itself is wrong", c.name)
		}
		checkSafe(t, c.name, c.s, c.way, c.want)
	}
}

func TestSafeTargets(t *testing.T) {
	for _, c := range []struct {
		name string
		s    scene
		want []int
	}{
		{"near cells", campScene(0, 9, ""), []int{0, 1, 5}},
		{"its cell alone", campScene(0, 8, ""), []int{0}},
		{"its cell alone, with nothing", campScene(0, 0, ""), []int{0}},
		{"its cell alone, away from the base", campScene(12, 2, "", [2]int{12, 32}), []int{12}},
		{"the way home", campScene(12, 15, ".........s"), []int{0, 5, 10, 11, 12}},
		{"its cell alone, and home", campScene(5, 6, ""), []int{0, 5}},
		{"none, as it cannot return", campScene(12, 17, ""), nil},
		{"cells around", campScene(0, 18, ""), []int{0, 1, 2, 5, 10}},
		{"all cells", campScene(0, 10000, ""), []int{0, 1, 2, 3, 4, 5, 8, 9, 10, 11, 12, 13, 14, 15, 17, 18, 19}},
		{"the way home, just possible", campScene(12, 18, ""), []int{0, 5, 10, 11, 12}},
		{"with a depot at the base", campScene(0, 9, "", [2]int{0, 90}), []int{0, 1, 5}},
		{"with a depot on the way", campScene(0, 18, "", [2]int{10, 30}), []int{0, 1, 2, 5, 10, 11, 15}},
		{"without storms", campScene(0, 12, "").withRule(calm), []int{0, 1, 2, 5, 10}},
		{"on this side of a wall", scene{x: wall, base: 0, r: calm, p: crewWith(pair, 90)}, []int{0, 1, 5, 6, 10, 11}},
		{"without a way home", scene{x: wall, base: 0, r: calm, p: crewWith(pair, 90)}.withAt(4), nil},
		{"a single cell", scene{x: landOf("."), base: 0, r: calm, p: crewWith(pair, 90)}, []int{0}},
		{"from a rock", campScene(6, 90, ""), nil},
	} {
		if got := c.s.safeTargetsOf(); !slices.Equal(got, c.want) {
			t.Errorf("%s: the test itself is wrong: %v", c.name, got)
		}
		checkTargets(t, c.name, c.s, c.want)
	}
}

func TestLatestOfStrewnParties(t *testing.T) {
	long, short, longer := 0, 0, 0
	for s := range strewnScenes(4000) {
		storms, calmDays := s.latestOf(true), s.latestOf(false)
		checkLatest(t, "strewn", s, storms, calmDays)
		switch {
		case storms > calmDays:
			longer++
		case storms > 0:
			long++
		default:
			short++
		}
	}
	if long < 300 || short < 300 || longer < 40 {
		t.Errorf("%d can wait, %d cannot, and %d can wait longer in storms", long, short, longer)
	}
}

func TestWaitingInStormsLastsAtLeastAsLongWithoutDepots(t *testing.T) {
	waiting := 0
	for s := range strewnScenes(6000) {
		s.l = nil
		storms, calmDays := s.latestTurn(), s.latestCalm()
		if storms < calmDays {
			t.Errorf("in %s, to %d, with %v, %v can wait for %d days in storms, and for %d in calm", drawingOf(s.x), s.base, s.r, s.p, storms, calmDays)
		}
		if calmDays > 0 {
			waiting++
		}
	}
	if waiting < 1000 {
		t.Errorf("only %d can wait", waiting)
	}
}

func TestMustTurnOfStrewnParties(t *testing.T) {
	must, onlyOn := 0, 0
	for s := range strewnScenes(12000) {
		want := s.mustTurnOf()
		checkMust(t, "strewn", s, want)
		if want {
			must++
		} else if s.leftOf() >= 0 && s.p.At != s.base && !s.maySetOutOf(s.p.At) {
			onlyOn++
		}
	}
	if must < 500 || onlyOn < 1 {
		t.Errorf("%d must turn, and %d cannot wait, but go on", must, onlyOn)
	}
}

func TestSafeWaysOfStrewnParties(t *testing.T) {
	throw := dice()
	safe, unsafe := 0, 0
	for s := range strewnScenes(4000) {
		way := []int{s.p.At}
		for range throw(5) {
			beside := besideOf(s.x, way[len(way)-1])
			if len(beside) > 0 {
				way = append(way, beside[throw(len(beside))])
			}
		}
		switch throw(12) {
		case 0:
			way[throw(len(way))] = throw(len(s.x.Cells)+2) - 1
		case 1:
			way = way[1:]
		}
		want := s.isSafeWayOf(way)
		checkSafe(t, "strewn", s, way, want)
		if want && len(way) > 1 {
			safe++
		} else if len(way) > 1 {
			unsafe++
		}
	}
	if safe < 300 || unsafe < 300 {
		t.Errorf("%d ways are safe, %d are not", safe, unsafe)
	}
}

func TestSafeTargetsOfStrewnParties(t *testing.T) {
	all, some := 0, 0
	for s := range strewnScenes(2500) {
		want := s.safeTargetsOf()
		checkTargets(t, "strewn", s, want)
		for _, n := range want {
			checkSafe(t, "to a safe target", s, impl.WayTo(s.x, s.p.At, n), true)
			if impl.StepsOn(s.x, s.base, s.r, s.l, s.p, n) != impl.Days(s.x, s.p.At, n) {
				t.Errorf("%d is a target, and StepsOn does not lead there", n)
			}
		}
		if len(want) == len(impl.Reach(s.x, s.p.At, 64)) {
			all++
		} else if len(want) > 1 {
			some++
		}
	}
	if all < 100 || some < 300 {
		t.Errorf("all cells are targets %d times, and some %d times", all, some)
	}
}

func TestNobodyWaitsOrTurnsInBadScenes(t *testing.T) {
	for name, s := range badScenes() {
		checkLatest(t, name, s, 0, 0)
		checkMust(t, name, s, false)
		for _, way := range [][]int{{s.p.At}, {s.p.At, s.base}, {s.p.At, 11}, {s.p.At, s.p.At}, {11}, {}, nil, {math.MaxInt}, {math.MinInt}, {-1}} {
			checkSafe(t, name, s, way, false)
		}
		checkTargets(t, name, s, nil)
	}
}

func TestTurningAtAndToEachNumber(t *testing.T) {
	numbers := badCells(len(camp.Cells))
	for n := -3; n < len(camp.Cells)+3; n++ {
		numbers = append(numbers, n)
	}
	for _, n := range numbers {
		s := campScene(n, 45, "")
		if isOpenOf(camp, n) {
			checkLatest(t, "each cell", s, s.latestOf(true), s.latestOf(false))
			checkTargets(t, "each cell", s, s.safeTargetsOf())
		} else {
			checkLatest(t, "no cell", s, 0, 0)
			checkTargets(t, "no cell", s, nil)
		}
		checkMust(t, "each number", s, isOpenOf(camp, n) && s.mustTurnOf())
		for _, to := range numbers {
			want := isOpenOf(camp, n) && s.isSafeWayOf([]int{n, to})
			checkSafe(t, "each number", s, []int{n, to}, want)
		}
		s = campScene(12, 45, "").withBase(n)
		if isOpenOf(camp, n) {
			checkLatest(t, "each base", s, s.latestOf(true), s.latestOf(false))
			checkMust(t, "each base", s, s.mustTurnOf())
			checkTargets(t, "each base", s, s.safeTargetsOf())
		}
	}
}

func TestTurningKeepsItsArguments(t *testing.T) {
	for _, s := range keptScenes() {
		g := guardScene(s)
		checkOwnMemory(t, "SafeTargets", g.cells, g.safeTargets)
		way := guard(12, 11, 10, 11)
		g.latestTurn()
		g.latestCalm()
		g.mustTurn()
		g.isSafeWay(way.list)
		g.check(t, "the functions of turning back")
		way.check(t, "IsSafeWay")
	}
}

func TestTurningKeepsNoState(t *testing.T) {
	s := campScene(5, 12, "")
	first := s.latestTurn()
	s.p.Food = 8
	second := s.latestTurn()
	s.p.Food = 12
	third := s.latestTurn()
	if first != 2 || second != 0 || third != 2 {
		t.Errorf("while the food changes, LatestTurn is %d, %d and %d", first, second, third)
	}
}
