package tests

import (
	"math"
	"slices"
	"testing"

	"loop.example/g03008/impl"
)

func (s scene) canReturn() bool {
	return impl.CanReturn(s.x, s.base, s.r, s.l, s.p)
}

func (s scene) leftAtHome() int {
	return impl.LeftAtHome(s.x, s.base, s.r, s.l, s.p)
}

func (s scene) needHome() int {
	return impl.NeedHome(s.x, s.base, s.r, s.p)
}

func (s scene) returnStep(storm bool) (impl.Party, []impl.Depot, bool) {
	return impl.ReturnStep(s.x, s.base, s.r, s.l, s.p, storm)
}

func (s scene) returnAll(storms []bool) (impl.Party, []impl.Depot, int) {
	return impl.ReturnAll(s.x, s.base, s.r, s.l, s.p, storms)
}

// checkLeft checks LeftAtHome and CanReturn, which is the same for all of -1.
func checkLeft(t *testing.T, name string, s scene, want int) {
	t.Helper()
	if got := s.leftAtHome(); got != want {
		t.Errorf("%s: LeftAtHome(%s, %d, %v, %v, %v) is %d, not %d", name, drawingOf(s.x), s.base, s.r, s.l, s.p, got, want)
	}
	if got := s.canReturn(); got != (want >= 0) {
		t.Errorf("%s: CanReturn(%s, %d, %v, %v, %v) is %v", name, drawingOf(s.x), s.base, s.r, s.l, s.p, got)
	}
}

func TestLeftAtHome(t *testing.T) {
	cases := []struct {
		name string
		s    scene
		left int
	}{
		{"just enough", campScene(12, 18, ""), 0},
		{"one unit less", campScene(12, 17, ""), -1},
		{"one unit more", campScene(12, 19, ""), 1},
		{"more than it can carry", campScene(12, 40, ""), 22},
		{"as much as may be", campScene(12, 10000, ""), 9982},
		{"nothing", campScene(12, 0, ""), -1},
		{"a storm the day before", campScene(12, 15, "s"), 0},
		{"a storm the day before, one unit less", campScene(12, 14, "s"), -1},
		{"a storm two days before", campScene(12, 18, "s."), 0},
		{"a storm two days before, one unit less", campScene(12, 17, "s."), -1},
		{"a storm three days before", campScene(12, 18, "s.."), 0},
		{"ten days, a storm at the end", campScene(12, 15, ".........s"), 0},
		{"no storms", campScene(12, 12, "").withRule(calm), 0},
		{"no storms, one unit less", campScene(12, 11, "").withRule(calm), -1},
		{"no storms in a window of ten", campScene(12, 12, "").withRule(impl.Rule{Most: 0, Window: 10}), 0},
		{"nine storms in ten days", campScene(5, 30, "").withRule(impl.Rule{Most: 9, Window: 10}), 0},
		{"nine storms in ten days, one unit less", campScene(5, 29, "").withRule(impl.Rule{Most: 9, Window: 10}), -1},
		{"nine storms in ten days, and just before", campScene(5, 3, ".sssssssss").withRule(impl.Rule{Most: 9, Window: 10}), 0},
		{"nine storms in ten days, the first one long ago", campScene(5, 30, "sssssssss.").withRule(impl.Rule{Most: 9, Window: 10}), 0},
		{"a past that breaks the rule", campScene(12, 12, "ss").withRule(impl.Rule{Most: 1, Window: 10}), 0},
		{"the ill eat too", campScene(12, 36, "").withCrew(trio), 0},
		{"the ill eat too, one unit less", campScene(12, 35, "").withCrew(trio), -1},
		{"all are ill", campScene(12, 96, "").withCrew(sick), 0},
		{"all are ill, one unit less", campScene(12, 95, "").withCrew(sick), -1},
		{"another base", campScene(12, 6, "").withBase(11), 0},
		{"another base, one unit less", campScene(12, 5, "").withBase(11), -1},
		{"a base on ice", campScene(12, 6, "").withBase(13), 0},
		{"the last cell of the land", campScene(19, 36, ""), 3},
	}
	for _, c := range cases {
		checkLeft(t, c.name, c.s, c.left)
	}
}

func TestLeftAtHomeAtTheBase(t *testing.T) {
	cases := []struct {
		name string
		s    scene
		left int
	}{
		{"nothing", campScene(0, 0, ""), 0},
		{"some food", campScene(0, 5, ""), 5},
		{"less than for a day", campScene(0, 2, ""), 2},
		{"more than it can carry", campScene(0, 40, ""), 40},
		{"as much as may be", campScene(0, 10000, ""), 10000},
		{"a depot there", campScene(0, 5, "", [2]int{0, 9}), 14},
		{"a depot there, and nothing else", campScene(0, 0, "", [2]int{0, 9}), 9},
		{"a depot that has just room", campScene(0, 5, "", [2]int{0, 27}), 32},
		{"a depot that has no room", campScene(0, 5, "", [2]int{0, 28}), 32},
		{"a depot, carrying more than it can", campScene(0, 40, "", [2]int{0, 28}), 40},
		{"a depot elsewhere", campScene(0, 5, "", [2]int{1, 9}), 5},
		{"a storm the day before", campScene(0, 5, "s"), 5},
		{"at another base", campScene(19, 5, "", [2]int{0, 9}, [2]int{19, 4}).withBase(19), 9},
	}
	for _, c := range cases {
		checkLeft(t, c.name, c.s, c.left)
		if got := c.s.needHome(); got != 0 {
			t.Errorf("%s: NeedHome is %d", c.name, got)
		}
		for _, storm := range []bool{false, true} {
			checkReturnStep(t, c.name, c.s, storm, c.s.p, c.s.l, false)
		}
	}
}

func TestLeftAtHomeWithDepots(t *testing.T) {
	cases := []struct {
		name string
		s    scene
		left int
	}{
		{"at its own cell, what is missing", campScene(12, 17, "", [2]int{12, 1}), 0},
		{"at its own cell, all there is", campScene(12, 0, "", [2]int{12, 18}), 0},
		{"at its own cell, one unit less", campScene(12, 0, "", [2]int{12, 17}), -1},
		{"at its own cell, as much as finds room", campScene(12, 10, "", [2]int{12, 10000}), 14},
		{"at its own cell, where nobody can carry", campScene(12, 95, "", [2]int{12, 1}).withCrew(sick), -1},
		{"at its own cell, carrying as much as it can", campScene(12, 32, "", [2]int{12, 5}), 14},
		{"at its own cell, carrying more than it can", campScene(12, 33, "", [2]int{12, 5}), 15},
		{"at the next cell, just in time", campScene(12, 6, "", [2]int{11, 12}), 0},
		{"at the next cell, one unit less there", campScene(12, 6, "", [2]int{11, 11}), -1},
		{"at the next cell, one unit too late", campScene(12, 5, "", [2]int{11, 99}), -1},
		{"on the way, just in time", campScene(12, 9, "", [2]int{10, 9}), 0},
		{"on the way, one unit less there", campScene(12, 9, "", [2]int{10, 8}), -1},
		{"on the way, one unit too late", campScene(12, 8, "", [2]int{10, 10000}), -1},
		{"on the way, not needed", campScene(12, 18, "", [2]int{10, 2}), 2},
		{"on the way, one unit", campScene(12, 17, "", [2]int{10, 1}), 0},
		{"on the way, as much as finds room", campScene(12, 18, "", [2]int{10, 10000}), 23},
		{"on the way, with no room left", campScene(12, 41, "", [2]int{10, 10000}), 23},
		{"before the last step", campScene(12, 15, "", [2]int{5, 3}), 0},
		{"before the last step, one unit less there", campScene(12, 15, "", [2]int{5, 2}), -1},
		{"before the last step, one unit too late", campScene(12, 14, "", [2]int{5, 9}), -1},
		{"at the base, not needed", campScene(12, 18, "", [2]int{0, 9}), 9},
		{"at the base, one unit too late", campScene(12, 17, "", [2]int{0, 9}), -1},
		{"at the base, as much as finds room", campScene(12, 20, "", [2]int{0, 10000}), 32},
		{"several, each just in time", campScene(12, 0, "", [2]int{0, 4}, [2]int{5, 3}, [2]int{10, 6}, [2]int{11, 3}, [2]int{12, 6}), 4},
		{"several, one unit less at the first", campScene(12, 0, "", [2]int{0, 4}, [2]int{5, 3}, [2]int{10, 6}, [2]int{11, 3}, [2]int{12, 5}), -1},
		{"several, one unit less at the last", campScene(12, 0, "", [2]int{0, 4}, [2]int{5, 2}, [2]int{10, 6}, [2]int{11, 3}, [2]int{12, 6}), -1},
		{"beside the way", campScene(12, 17, "", [2]int{1, 9}, [2]int{8, 9}, [2]int{13, 9}, [2]int{15, 9}, [2]int{17, 9}), -1},
		// In the worst weather there is a storm first, and then one at the cell 10.
		{"a day of storm at its own cell", campScene(12, 0, "", [2]int{12, 40}), 14},
		{"a day of storm at a depot", campScene(12, 15, "", [2]int{10, 99}), 23},
	}
	for _, c := range cases {
		checkLeft(t, c.name, c.s, c.left)
	}
	// Of two shortest ways, the one with the least cells counts.
	square := scene{x: field, base: 8, r: calm, p: impl.Party{At: 0, Food: 9, Crew: pair}}
	checkLeft(t, "over the cell 1", square.with(depotsOf([2]int{1, 3}), square.p), 0)
	checkLeft(t, "not over the cell 3", square.with(depotsOf([2]int{3, 3}), square.p), -1)
}

func TestTheWorstReturnOfEveryRule(t *testing.T) {
	for _, r := range allRules() {
		for past := range allPasts(6) {
			s := campScene(12, 0, "").withRule(r)
			s.p.Past = past
			need := 3 * worstDaysOf(r, past, 4)
			s.p.Food = need
			checkLeft(t, "just enough", s, 0)
			s.p.Food = need - 1
			checkLeft(t, "one unit less", s, -1)
			if got := s.needHome(); got != need {
				t.Errorf("NeedHome with %v behind %q is %d, not %d", r, drawingOfPast(past), got, need)
			}
		}
	}
}

func TestNeedHome(t *testing.T) {
	cases := []struct {
		name string
		s    scene
		want int
	}{
		{"four days away", campScene(12, 0, ""), 18},
		{"with food", campScene(12, 99, ""), 18},
		{"a storm the day before", campScene(12, 0, "s"), 15},
		{"a storm two days before", campScene(12, 0, "s."), 18},
		{"no storms", campScene(12, 0, "").withRule(calm), 12},
		{"at the base", campScene(0, 0, ""), 0},
		{"one day away", campScene(5, 0, ""), 6},
		{"one day away, the base on ice", campScene(12, 0, "").withBase(8), 9},
		{"depots do not count", campScene(12, 0, "", [2]int{12, 99}), 18},
		{"depots that are not valid do not count", campScene(12, 0, "", [2]int{6, 0}, [2]int{-1, 3}), 18},
		{"the ill eat too", campScene(12, 0, "").withCrew(trio), 36},
		{"as much food as may be", campScene(12, 10000, ""), 18},
		{"too much food", campScene(12, 10001, ""), -1},
		{"less food than nothing", campScene(12, -1, ""), -1},
		{"ten days", campScene(12, 0, ".........."), 18},
		{"eleven days", campScene(12, 0, "..........."), -1},
		{"no crew", campScene(12, 0, "").withCrew(nil), -1},
		{"no crew, at the base", campScene(0, 0, "").withCrew(nil), -1},
		{"on a rock", campScene(6, 0, ""), -1},
		{"the base on a rock", campScene(12, 0, "").withBase(6), -1},
		{"both on a rock", campScene(6, 0, "").withBase(6), -1},
		{"no rule", campScene(12, 0, "").withRule(impl.Rule{}), -1},
		{"no rule, at the base", campScene(0, 0, "").withRule(impl.Rule{}), -1},
		{"no way", scene{x: wall, base: 0, r: calm, p: impl.Party{At: 4, Crew: pair}}, -1},
		{"very far, and all storms", scene{x: snake, base: 0, r: impl.Rule{Most: 9, Window: 10}, p: impl.Party{At: 56, Crew: strong}}, 80 * 10 * 35},
	}
	for _, c := range cases {
		if got := c.s.needHome(); got != c.want {
			t.Errorf("%s: NeedHome is %d, not %d", c.name, got, c.want)
		}
	}
}

func TestReturnsOfStrewnParties(t *testing.T) {
	can, canNot, saved := 0, 0, 0
	for s := range strewnScenes(20000) {
		want := s.leftOf()
		checkLeft(t, "strewn", s, want)
		if got := s.needHome(); got != s.needOfHome() {
			t.Errorf("NeedHome(%s, %d, %v, %v) is %d, not %d", drawingOf(s.x), s.base, s.r, s.p, got, s.needOfHome())
		}
		switch bare := s.with(nil, s.p); {
		case want < 0:
			canNot++
		case bare.canReturn():
			can++
		default:
			saved++
		}
	}
	if can < 3000 || canNot < 3000 || saved < 300 {
		t.Errorf("%d can return, %d cannot, %d only with depots", can, canNot, saved)
	}
}

func TestWithoutDepotsAllThatIsNeededIsEaten(t *testing.T) {
	for s := range strewnScenes(5000) {
		s.l = nil
		if need := s.needHome(); need >= 0 {
			checkLeft(t, "without depots", s, max(-1, s.p.Food-need))
		}
	}
}

// returnStepOf is ReturnStep in a valid land.
func (s scene) returnStepOf(storm bool) (impl.Party, []impl.Depot, bool) {
	way := s.wayHome()
	if s.leftOf() < 0 || len(way) == 1 || storm && !mayStormOf(s.r, s.p.Past) {
		return s.p, s.l, false
	}
	taken := s.findsRoom(s.p.Food, s.p.At)
	depots, _ := takeOf(s.x, s.l, s.p.At, taken)
	s.p.Food += taken
	if storm {
		return s.after(s.p.At, true), depots, true
	}
	return s.after(way[1], false), depots, true
}

func checkReturnStep(t *testing.T, name string, s scene, storm bool, p impl.Party, l []impl.Depot, want bool) {
	t.Helper()
	gotParty, gotDepots, ok := s.returnStep(storm)
	if ok != want || !sameParty(gotParty, p) || !slices.Equal(gotDepots, l) {
		t.Errorf("%s: ReturnStep(%s, %d, %v, %v, %v, %v) is %v, %v and %v, not %v, %v and %v", name, drawingOf(s.x), s.base, s.r, s.l, s.p, storm, gotParty, gotDepots, ok, p, l, want)
	}
}

func TestReturnStep(t *testing.T) {
	cases := []struct {
		name   string
		s      scene
		storm  bool
		at     int
		food   int
		past   string
		depots [][2]int
		ok     bool
	}{
		{"on", campScene(12, 18, ""), false, 11, 15, ".", nil, true},
		{"a storm", campScene(12, 18, ""), true, 12, 15, "s", nil, true},
		{"a storm where there may be none", campScene(12, 18, "s"), true, 12, 18, "s", nil, false},
		{"on where there may be none", campScene(12, 18, "s"), false, 11, 15, "s.", nil, true},
		{"a storm behind two days without one", campScene(12, 18, "s.."), true, 12, 15, "s..s", nil, true},
		{"a storm where the rule has none", campScene(12, 18, "").withRule(calm), true, 12, 18, "", nil, false},
		{"with too little food", campScene(12, 17, ""), false, 12, 17, "", nil, false},
		{"with too little food, in a storm", campScene(12, 17, ""), true, 12, 17, "", nil, false},
		{"the last step", campScene(5, 6, ""), false, 0, 3, ".", nil, true},
		{"at the base", campScene(0, 9, ""), false, 0, 9, "", nil, false},
		{"at the base, in a storm", campScene(0, 9, ""), true, 0, 9, "", nil, false},
		{"at the base, with a depot", campScene(0, 9, "", [2]int{0, 7}), false, 0, 9, "", [][2]int{{0, 7}}, false},
		{"all of a depot", campScene(12, 10, "", [2]int{12, 20}), false, 11, 27, ".", nil, true},
		{"a part of a depot", campScene(12, 10, "", [2]int{12, 25}), false, 11, 29, ".", [][2]int{{12, 3}}, true},
		{"a part of a depot, in a storm", campScene(12, 10, "", [2]int{12, 25}), true, 12, 29, "s", [][2]int{{12, 3}}, true},
		{"all of a depot but one unit", campScene(12, 10, "", [2]int{12, 23}), false, 11, 29, ".", [][2]int{{12, 1}}, true},
		{"a depot that has just room", campScene(12, 10, "", [2]int{12, 22}), false, 11, 29, ".", nil, true},
		{"one unit", campScene(12, 17, "", [2]int{12, 1}), false, 11, 15, ".", nil, true},
		{"a depot that finds no room", campScene(12, 32, "", [2]int{12, 5}), false, 11, 29, ".", [][2]int{{12, 5}}, true},
		{"a depot, carrying more than it can", campScene(12, 40, "", [2]int{12, 5}), false, 11, 37, ".", [][2]int{{12, 5}}, true},
		{"a depot where nobody can carry", campScene(12, 96, "", [2]int{12, 5}).withCrew(sick), false, 11, 80, ".", [][2]int{{12, 5}}, true},
		{"a depot at the next cell", campScene(12, 18, "", [2]int{11, 5}), false, 11, 15, ".", [][2]int{{11, 5}}, true},
		{"depots around", campScene(12, 18, "", [2]int{0, 1}, [2]int{12, 5}, [2]int{13, 7}), false, 11, 20, ".", [][2]int{{0, 1}, {13, 7}}, true},
		{"with food from a depot alone", campScene(12, 0, "", [2]int{12, 18}), false, 11, 15, ".", nil, true},
		{"with food from a depot alone, in a storm", campScene(12, 0, "", [2]int{12, 18}), true, 12, 15, "s", nil, true},
		{"ten days", campScene(12, 18, "s........."), false, 11, 15, "..........", nil, true},
		{"ten days, and a storm", campScene(12, 18, "s........."), true, 12, 15, ".........s", nil, true},
		{"nine days", campScene(12, 18, "s........"), false, 11, 15, "s.........", nil, true},
	}
	for _, c := range cases {
		p := impl.Party{At: c.at, Food: c.food, Crew: c.s.p.Crew, Past: pastOf(c.past)}
		checkReturnStep(t, c.name, c.s, c.storm, p, depotsOf(c.depots...), c.ok)
	}
}

func TestReturnStepsOfStrewnParties(t *testing.T) {
	steps := 0
	for s := range strewnScenes(10000) {
		for _, storm := range []bool{false, true} {
			p, l, ok := s.returnStepOf(storm)
			checkReturnStep(t, "strewn", s, storm, p, l, ok)
			if ok {
				steps++
			}
		}
	}
	if steps < 3000 {
		t.Errorf("only %d steps are possible", steps)
	}
}

func checkReturnAll(t *testing.T, name string, s scene, storms []bool, p impl.Party, l []impl.Depot, want int) {
	t.Helper()
	gotParty, gotDepots, days := s.returnAll(storms)
	if days != want || !sameParty(gotParty, p) || !slices.Equal(gotDepots, l) {
		t.Errorf("%s: ReturnAll(%s, %d, %v, %v, %v, %q) is %v, %v and %d, not %v, %v and %d", name, drawingOf(s.x), s.base, s.r, s.l, s.p, drawingOfPast(storms), gotParty, gotDepots, days, p, l, want)
	}
}

func TestReturnAll(t *testing.T) {
	cases := []struct {
		name   string
		s      scene
		storms string
		at     int
		food   int
		past   string
		depots [][2]int
		days   int
	}{
		{"the worst weather", campScene(12, 18, ""), "s..s..", 0, 0, "s..s..", nil, 6},
		{"calm", campScene(12, 18, ""), "....", 0, 6, "....", nil, 4},
		{"a late storm", campScene(12, 18, ""), "...s.", 0, 3, "...s.", nil, 5},
		{"no days", campScene(12, 18, "s"), "", 12, 18, "s", nil, 0},
		{"a part of the way", campScene(12, 18, ""), "s.", 11, 12, "s.", nil, 2},
		{"more days than are needed", campScene(12, 18, ""), "s..s......", 0, 0, "s..s..", nil, 6},
		{"more days than are needed, and storms", campScene(12, 18, ""), "....ssss", 0, 6, "....", nil, 4},
		{"a storm too many", campScene(12, 18, ""), ".ss....", 11, 12, ".s", nil, 2},
		{"a storm too many at once", campScene(12, 18, "s"), "s....", 12, 18, "s", nil, 0},
		{"a storm that may be, and one that may not", campScene(12, 18, ""), "s.s...", 11, 12, "s.", nil, 2},
		{"with too little food", campScene(12, 17, ""), "....", 12, 17, "", nil, 0},
		{"at the base", campScene(0, 5, ""), "..", 0, 5, "", nil, 0},
		{"depots on the way", campScene(12, 3, "", [2]int{0, 9}, [2]int{10, 50}, [2]int{12, 7}), "s..s..", 0, 26, "s..s..", [][2]int{{0, 9}, {10, 16}}, 6},
		{"depots on the way, calm", campScene(12, 3, "", [2]int{0, 9}, [2]int{10, 50}, [2]int{12, 7}), "....", 0, 26, "....", [][2]int{{0, 9}, {10, 22}}, 4},
		{"a depot in two days", campScene(12, 30, "", [2]int{12, 5}), "s....", 0, 20, "s....", nil, 5},
		{"ten days before", campScene(12, 18, "ss........"), "s.", 11, 12, "........s.", nil, 2},
	}
	for _, c := range cases {
		p := impl.Party{At: c.at, Food: c.food, Crew: c.s.p.Crew, Past: pastOf(c.past)}
		checkReturnAll(t, c.name, c.s, pastOf(c.storms), p, depotsOf(c.depots...), c.days)
	}
}

func TestReturnAllOfStrewnParties(t *testing.T) {
	throw := dice()
	for s := range strewnScenes(6000) {
		storms := strewnPast(throw, throw(14), 2+throw(5))
		at, days := s, 0
		for days < len(storms) {
			p, l, ok := at.returnStepOf(storms[days])
			if !ok {
				break
			}
			at = at.with(l, p)
			days++
		}
		checkReturnAll(t, "strewn", s, storms, at.p, at.l, days)
	}
}

// worstWeatherOf is the weather of a worst return of so many days.
func worstWeatherOf(r impl.Rule, past []bool, days int) []bool {
	all := slices.Clone(past)
	for range days {
		all = append(all, mayStormOf(r, all))
	}
	return all[len(past):]
}

func TestWithoutDepotsTheWorstReturnIsOneOfReturnAll(t *testing.T) {
	for s := range strewnScenes(4000) {
		s.l = nil
		left := s.leftAtHome()
		if left < 0 {
			continue
		}
		days := worstDaysOf(s.r, s.p.Past, len(s.wayHome())-1)
		home, _, n := s.returnAll(worstWeatherOf(s.r, s.p.Past, days))
		if n != days || home.At != s.base || home.Food != left {
			t.Errorf("ReturnAll(%s, %d, %v, %v) in the worst weather is %v in %d days, not with %d left in %d days", drawingOf(s.x), s.base, s.r, s.p, home, n, left, days)
		}
	}
}

func TestWhoeverCanReturnComesHomeInEveryWeather(t *testing.T) {
	weathers := 0
	for _, r := range []impl.Rule{calm, oneInThree, {Most: 0, Window: 4}, {Most: 1, Window: 2}, {Most: 2, Window: 3}, {Most: 2, Window: 5}, {Most: 3, Window: 4}} {
		for _, at := range []int{0, 5, 12, 4} {
			for past := range allPasts(3) {
				s := campScene(at, 0, "").withRule(r)
				s.p.Past = past
				s.p.Food = s.needHome()
				weathers += comeHome(t, s)
				s.p.Food += 2
				weathers += comeHome(t, s)
			}
		}
	}
	if weathers < 10000 {
		t.Errorf("there are only %d weathers", weathers)
	}
}

// comeHome checks each weather until the base, and returns how many there are.
func comeHome(t *testing.T, s scene) int {
	t.Helper()
	if !s.canReturn() {
		t.Fatalf("in %s with %v, %v cannot return", drawingOf(s.x), s.r, s.p)
	}
	if s.p.At == s.base {
		return 1
	}
	weathers := 0
	for _, storm := range []bool{false, true} {
		p, l, ok := s.returnStep(storm)
		if may := !storm || mayStormOf(s.r, s.p.Past); ok != may || len(l) != 0 {
			t.Fatalf("in %s with %v, ReturnStep(%v, %v) is %v", drawingOf(s.x), s.r, s.p, storm, ok)
		}
		if ok {
			weathers += comeHome(t, s.with(l, p))
		}
	}
	return weathers
}

func TestStrewnPartiesComeHomeInStrewnWeather(t *testing.T) {
	throw := dice()
	for s := range strewnScenes(4000) {
		s.l = nil
		if !s.canReturn() {
			continue
		}
		for s.p.At != s.base {
			p, l, ok := s.returnStep(mayStormOf(s.r, s.p.Past) && throw(2) == 0)
			if s = s.with(l, p); !ok || !s.canReturn() {
				t.Fatalf("in %s with %v, %v cannot return to %d", drawingOf(s.x), s.r, s.p, s.base)
			}
		}
	}
}

func TestNobodyReturnsInBadScenes(t *testing.T) {
	for name, s := range badScenes() {
		if got := s.canReturn(); got {
			t.Errorf("%s: CanReturn(%.80v, %d, %v, %v, %v) is true", name, s.x, s.base, s.r, s.l, s.p)
		}
		if got := s.leftAtHome(); got != -1 {
			t.Errorf("%s: LeftAtHome(%.80v, %d, %v, %v, %v) is %d", name, s.x, s.base, s.r, s.l, s.p, got)
		}
		if got := s.needHome(); name != "the depots" && got != -1 {
			t.Errorf("%s: NeedHome(%.80v, %d, %v, %v) is %d", name, s.x, s.base, s.r, s.p, got)
		}
		for _, storm := range []bool{false, true} {
			if p, l, ok := s.returnStep(storm); ok || !sameParty(p, s.p) || !slices.Equal(l, s.l) {
				t.Errorf("%s: ReturnStep(%.80v, %d, %v, %v, %v, %v) is %v, %v and %v", name, s.x, s.base, s.r, s.l, s.p, storm, p, l, ok)
			}
			if p, l, n := s.returnAll([]bool{storm, false, false}); n != 0 || !sameParty(p, s.p) || !slices.Equal(l, s.l) {
				t.Errorf("%s: ReturnAll(%.80v, %d, %v, %v, %v) is %v, %v and %d", name, s.x, s.base, s.r, s.l, s.p, p, l, n)
			}
		}
		if p, l, n := s.returnAll(nil); n != 0 || !sameParty(p, s.p) || !slices.Equal(l, s.l) {
			t.Errorf("%s: ReturnAll(%.80v, %d, %v, %v, %v) of no days is %v, %v and %d", name, s.x, s.base, s.r, s.l, s.p, p, l, n)
		}
	}
}

func TestReturnsFromAndToEachNumber(t *testing.T) {
	numbers := append(badCells(len(camp.Cells)), math.MaxInt32, math.MinInt32)
	for n := -3; n < len(camp.Cells)+3; n++ {
		numbers = append(numbers, n)
	}
	for _, at := range numbers {
		for _, base := range numbers {
			s := campScene(at, 60, "").withBase(base)
			checkLeft(t, "each number", s, s.leftOf())
			if got := s.needHome(); got != s.needOfHome() {
				t.Errorf("NeedHome from %d to %d is %d, not %d", at, base, got, s.needOfHome())
			}
		}
	}
}

// keptScenes are the ones with which it is tested that nothing is written.
func keptScenes() []scene {
	return []scene{
		campScene(12, 30, "s.", [2]int{0, 5}, [2]int{5, 40}, [2]int{12, 7}),
		campScene(12, 25, "..s.......", [2]int{12, 7}),
		campScene(12, 25, "", [2]int{12, 700}),
		campScene(12, 1, "s", [2]int{10, 3}),
		campScene(12, 18, ""),
		campScene(0, 25, "s", [2]int{0, 6}),
		campScene(6, 25, "s.", [2]int{12, 7}),
		campScene(12, -1, "s.", [2]int{12, 0}, [2]int{5, 9}),
		campScene(12, 30, ".............", [2]int{12, 7}).withCrew(badCrews()[6]),
		{},
	}
}

func TestReturnsKeepTheirArguments(t *testing.T) {
	for _, s := range keptScenes() {
		for _, storm := range []bool{false, true} {
			checkOwnScene(t, "ReturnStep", s, func(s scene) (impl.Party, []impl.Depot) {
				p, l, _ := s.returnStep(storm)
				return p, l
			})
		}
		for _, weather := range []string{"", ".", "..", "s..", "s..s...", "ss"} {
			storms := guard(pastOf(weather)...)
			checkOwnScene(t, "ReturnAll", s, func(s scene) (impl.Party, []impl.Depot) {
				p, l, _ := s.returnAll(storms.list)
				return p, l
			})
			storms.check(t, "ReturnAll")
		}
		g := guardScene(s)
		g.canReturn()
		g.leftAtHome()
		g.needHome()
		g.check(t, "CanReturn, LeftAtHome and NeedHome")
	}
}
