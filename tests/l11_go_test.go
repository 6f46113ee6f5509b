package tests

import (
	"math"
	"slices"
	"testing"

	"loop.example/g03008/impl"
)

func (s scene) mayGo(to int) bool {
	return impl.MayGo(s.x, s.base, s.r, s.l, s.p, to)
}

func (s scene) goStep(to int, storm bool) (impl.Party, bool) {
	return impl.GoStep(s.x, s.base, s.r, s.l, s.p, to, storm)
}

func (s scene) mayWait() bool {
	return impl.MayWait(s.x, s.base, s.r, s.l, s.p)
}

func (s scene) waitStep(storm bool) (impl.Party, bool) {
	return impl.WaitStep(s.x, s.base, s.r, s.l, s.p, storm)
}

func (s scene) stepsOn(target int) int {
	return impl.StepsOn(s.x, s.base, s.r, s.l, s.p, target)
}

func (s scene) choices() []int {
	return impl.ChoicesOf(s.x, s.base, s.r, s.l, s.p)
}

// maySetOutOf is MayGo in a valid land, or MayWait where to is the party's cell;
// told by what the weather of the day can make of the party.
func (s scene) maySetOutOf(to int) bool {
	if s.leftOf() < 0 || to != s.p.At && !slices.Contains(besideOf(s.x, s.p.At), to) || s.p.Food < needOf(s.p.Crew) {
		return false
	}
	stormy := s.with(s.l, s.after(s.p.At, true))
	return s.with(s.l, s.after(to, false)).leftOf() >= 0 && (!mayStormOf(s.r, s.p.Past) || stormy.leftOf() >= 0)
}

// setOutOf is GoStep in a valid land, or WaitStep likewise.
func (s scene) setOutOf(to int, storm bool) (impl.Party, bool) {
	if !s.maySetOutOf(to) || storm && !mayStormOf(s.r, s.p.Past) {
		return s.p, false
	}
	if storm {
		to = s.p.At
	}
	return s.after(to, storm), true
}

// stepsOnOf is StepsOn in a valid land.
func (s scene) stepsOnOf(target int) int {
	way := s.withBase(target).wayHome()
	at, steps := s, 0
	for steps+1 < len(way) {
		p, ok := at.setOutOf(way[steps+1], false)
		if !ok {
			break
		}
		at.p = p
		steps++
	}
	return steps
}

// checkGo checks MayGo and GoStep, which is possible in calm where MayGo holds.
func checkGo(t *testing.T, name string, s scene, to int, want bool) {
	t.Helper()
	if got := s.mayGo(to); got != want {
		t.Errorf("%s: MayGo(%s, %d, %v, %v, %v, %d) is %v", name, drawingOf(s.x), s.base, s.r, s.l, s.p, to, got)
	}
	for _, storm := range []bool{false, true} {
		after, ok := s.p, want && (!storm || mayStormOf(s.r, s.p.Past))
		if ok && storm {
			after = s.after(s.p.At, true)
		} else if ok {
			after = s.after(to, false)
		}
		if got, gotOk := s.goStep(to, storm); gotOk != ok || !sameParty(got, after) {
			t.Errorf("%s: GoStep(%s, %d, %v, %v, %v, %d, %v) is %v and %v", name, drawingOf(s.x), s.base, s.r, s.l, s.p, to, storm, got, gotOk)
		}
	}
}

// checkWait checks MayWait and WaitStep likewise.
func checkWait(t *testing.T, name string, s scene, want bool) {
	t.Helper()
	if got := s.mayWait(); got != want {
		t.Errorf("%s: MayWait(%s, %d, %v, %v, %v) is %v", name, drawingOf(s.x), s.base, s.r, s.l, s.p, got)
	}
	for _, storm := range []bool{false, true} {
		after, ok := s.p, want && (!storm || mayStormOf(s.r, s.p.Past))
		if ok {
			after = s.after(s.p.At, storm)
		}
		if got, gotOk := s.waitStep(storm); gotOk != ok || !sameParty(got, after) {
			t.Errorf("%s: WaitStep(%s, %d, %v, %v, %v, %v) is %v and %v", name, drawingOf(s.x), s.base, s.r, s.l, s.p, storm, got, gotOk)
		}
	}
}

var oneInTen = impl.Rule{Most: 1, Window: 10}

func TestGo(t *testing.T) {
	cases := []struct {
		name string
		s    scene
		to   int
		want bool
	}{
		{"on, just possible", campScene(5, 12, ""), 10, true},
		{"on, one unit less", campScene(5, 11, ""), 10, false},
		{"on, without storms", campScene(5, 9, "").withRule(calm), 10, true},
		{"on, without storms, one unit less", campScene(5, 8, "").withRule(calm), 10, false},
		{"back to the base, just possible", campScene(5, 6, ""), 0, true},
		{"back to the base, one unit less", campScene(5, 5, ""), 0, false},
		{"back to the base, where there may be no storm", campScene(5, 3, "s"), 0, true},
		{"back to the base, where there may be no storm, one unit less", campScene(5, 2, "s"), 0, false},
		{"from the base, just possible", campScene(0, 9, ""), 5, true},
		{"from the base, one unit less", campScene(0, 8, ""), 5, false},
		{"from the base, where there may be no storm", campScene(0, 9, "s"), 1, true},
		{"on, where there may be no storm for long", campScene(5, 9, "s").withRule(oneInTen), 10, true},
		{"on, where there may be no storm for long, one unit less", campScene(5, 8, "s").withRule(oneInTen), 10, false},
		{"on with as much, where there may be a storm", campScene(5, 9, "").withRule(oneInTen), 10, false},
		{"on with as much, where a storm was long ago", campScene(5, 9, "s.........").withRule(oneInTen), 10, false},
		{"on, where a storm was nine days ago", campScene(5, 9, "s........").withRule(oneInTen), 10, false},
		{"on, where a storm was six days ago", campScene(5, 9, "s.....").withRule(oneInTen), 10, true},
		{"on ice", campScene(12, 32, ""), 13, true},
		{"above", campScene(18, 32, ""), 13, true},
		{"below", campScene(12, 32, ""), 17, true},
		{"to the left", campScene(12, 32, ""), 11, true},
		{"to the cell itself", campScene(5, 32, ""), 5, false},
		{"to the base itself", campScene(0, 32, ""), 0, false},
		{"to a rock", campScene(5, 32, ""), 6, false},
		{"to a cell of another row", campScene(5, 32, ""), 4, false},
		{"two cells on", campScene(5, 32, ""), 15, false},
		{"across", campScene(12, 32, ""), 18, false},
		{"no cell", campScene(0, 32, ""), -1, false},
		{"no cell above", campScene(0, 32, ""), -5, false},
		{"no cell below", campScene(19, 60, ""), 24, false},
		{"with nothing to eat", campScene(5, 0, "", [2]int{5, 32}), 0, false},
		{"with less than for a day", campScene(5, 2, "", [2]int{5, 32}), 0, false},
		{"with food for a day, and a depot at its cell", campScene(5, 3, "", [2]int{5, 32}), 0, true},
		{"on from a depot that it needs", campScene(12, 5, "", [2]int{12, 30}), 11, false},
		{"on to a depot that it needs", campScene(5, 3, "", [2]int{5, 9}, [2]int{10, 6}), 10, true},
		{"on to a depot that has one unit less", campScene(5, 3, "", [2]int{5, 9}, [2]int{10, 5}), 10, false},
		{"on to a depot, too far from the base without", campScene(5, 3, "", [2]int{10, 99}), 10, false},
		{"on past a depot that it needs on the way home", campScene(10, 11, "", [2]int{10, 7}), 11, true},
		{"on past a depot that has one unit less", campScene(10, 11, "", [2]int{10, 6}), 11, false},
		{"carrying more than it can", campScene(5, 10000, ""), 10, true},
		{"all are ill", campScene(5, 64, "").withCrew(sick), 10, true},
		{"all are ill, one unit less", campScene(5, 63, "").withCrew(sick), 10, false},
	}
	for _, c := range cases {
		checkGo(t, c.name, c.s, c.to, c.want)
	}
}

func TestWait(t *testing.T) {
	cases := []struct {
		name string
		s    scene
		want bool
	}{
		{"just possible", campScene(5, 9, ""), true},
		{"one unit less", campScene(5, 8, ""), false},
		{"without storms", campScene(5, 6, "").withRule(calm), true},
		{"without storms, one unit less", campScene(5, 5, "").withRule(calm), false},
		{"where there may be no storm", campScene(5, 6, "s").withRule(oneInTen), true},
		{"where there may be no storm, one unit less", campScene(5, 5, "s").withRule(oneInTen), false},
		{"with as much, where there may be one", campScene(5, 6, "").withRule(oneInTen), false},
		{"at the base, just possible", campScene(0, 3, ""), true},
		{"at the base, one unit less", campScene(0, 2, ""), false},
		{"at the base, with a depot and nothing else", campScene(0, 0, "", [2]int{0, 50}), false},
		{"with a depot at its cell", campScene(12, 3, "", [2]int{12, 18}), true},
		{"with a depot at its cell, which has one unit less", campScene(12, 3, "", [2]int{12, 17}), false},
		{"with a depot at its cell, and less than for a day", campScene(12, 2, "", [2]int{12, 32}), false},
		{"with a depot at its cell that finds no room", campScene(12, 32, "", [2]int{12, 5}), true},
		{"with a depot on the way, just in time", campScene(12, 9, "", [2]int{11, 12}), true},
		{"with a depot on the way, one unit too late", campScene(12, 8, "", [2]int{11, 99}), false},
		{"with a depot at the base", campScene(5, 8, "", [2]int{0, 99}), false},
		{"ten days before", campScene(5, 9, ".........."), true},
	}
	for _, c := range cases {
		checkWait(t, c.name, c.s, c.want)
	}
}

func TestStepsOn(t *testing.T) {
	cases := []struct {
		name   string
		s      scene
		target int
		want   int
	}{
		{"as far as it may", campScene(0, 32, ""), 19, 4},
		{"as far as it may, with just enough", campScene(0, 30, ""), 19, 4},
		{"as far as it may, one unit less", campScene(0, 29, ""), 19, 3},
		{"one step farther", campScene(0, 39, ""), 19, 5},
		{"one step farther, one unit less", campScene(0, 38, ""), 19, 4},
		{"without storms", campScene(0, 32, "").withRule(calm), 19, 5},
		{"until the target", campScene(0, 32, ""), 3, 3},
		{"one step", campScene(0, 32, ""), 5, 1},
		{"no step", campScene(0, 8, ""), 19, 0},
		{"to its own cell", campScene(0, 32, ""), 0, 0},
		{"to its own cell, elsewhere", campScene(12, 32, ""), 12, 0},
		{"to a rock", campScene(0, 32, ""), 6, 0},
		{"to no cell", campScene(0, 32, ""), 20, 0},
		{"to a negative cell", campScene(0, 32, ""), -1, 0},
		{"past the base", campScene(5, 32, ""), 2, 3},
		{"home", campScene(12, 18, ""), 0, 4},
		{"home, one unit less", campScene(12, 17, ""), 0, 0},
		{"to a depot, and on", campScene(0, 30, "", [2]int{10, 20}), 19, 4},
		{"on where there may be no storm", campScene(0, 9, "s").withRule(oneInTen), 19, 1},
		{"on a little where there may be no storm", campScene(0, 12, "s").withRule(oneInTen), 19, 2},
		{"no way", scene{x: wall, base: 0, r: calm, p: impl.Party{At: 0, Food: 99, Crew: pair}}, 4, 0},
		{"on without end", scene{x: snake, base: 0, r: calm, p: impl.Party{At: 0, Food: 10000, Crew: pair}}, 56, 35},
	}
	for _, c := range cases {
		if got := c.s.stepsOn(c.target); got != c.want {
			t.Errorf("%s: StepsOn(%v, %v, %v, %d) is %d, not %d", c.name, c.s.r, c.s.l, c.s.p, c.target, got, c.want)
		}
	}
}

func TestChoicesOf(t *testing.T) {
	cases := []struct {
		name string
		s    scene
		want []int
	}{
		{"all", campScene(12, 32, ""), []int{11, 13, 17}},
		{"all, just possible", campScene(12, 27, ""), []int{11, 13, 17}},
		{"all, one unit less", campScene(12, 26, ""), []int{11}},
		{"none", campScene(12, 17, ""), nil},
		{"the way home alone", campScene(5, 11, ""), []int{0}},
		{"at the base", campScene(0, 9, ""), []int{1, 5}},
		{"at the base, none", campScene(0, 8, ""), nil},
		{"at the base, all at once", campScene(12, 12, "").withBase(12), []int{11, 13, 17}},
		{"a single cell", scene{x: landOf("."), base: 0, r: calm, p: impl.Party{Food: 99, Crew: pair}}, nil},
	}
	for _, c := range cases {
		if got := c.s.choices(); !slices.Equal(got, c.want) {
			t.Errorf("%s: ChoicesOf(%v, %v, %v) are %v, not %v", c.name, c.s.r, c.s.l, c.s.p, got, c.want)
		}
	}
}

func TestStepsOfStrewnParties(t *testing.T) {
	may, mayNot := 0, 0
	for s := range strewnScenes(6000) {
		choices := []int{}
		for to := range s.x.Cells {
			want := to != s.p.At && s.maySetOutOf(to)
			if slices.Contains(besideOf(s.x, s.p.At), to) || to%7 == 0 {
				checkGo(t, "strewn", s, to, want)
			}
			if want {
				choices = append(choices, to)
			}
		}
		if got := s.choices(); !slices.Equal(got, choices) {
			t.Errorf("ChoicesOf(%s, %d, %v, %v, %v) are %v, not %v", drawingOf(s.x), s.base, s.r, s.l, s.p, got, choices)
		}
		checkWait(t, "strewn", s, s.maySetOutOf(s.p.At))
		if len(choices) > 0 {
			may++
		} else {
			mayNot++
		}
	}
	if may < 1000 || mayNot < 1000 {
		t.Errorf("%d may go, %d may not", may, mayNot)
	}
}

func TestStepsOnOfStrewnParties(t *testing.T) {
	throw := dice()
	all, some := 0, 0
	for s := range strewnScenes(6000) {
		target := throw(len(s.x.Cells))
		way, steps := s.withBase(target).wayHome(), s.stepsOnOf(target)
		if got := s.stepsOn(target); got != steps {
			t.Errorf("StepsOn(%s, %d, %v, %v, %v, %d) is %d, not %d", drawingOf(s.x), s.base, s.r, s.l, s.p, target, got, steps)
		}
		if steps > 0 && steps+1 == len(way) {
			all++
		} else if steps > 0 {
			some++
		}
	}
	if all < 300 || some < 300 {
		t.Errorf("%d come to their target, %d come nearer", all, some)
	}
}

func TestWhoeverGoesOnCanStillReturn(t *testing.T) {
	steps := 0
	for s := range strewnScenes(6000) {
		for _, storm := range []bool{false, true} {
			for _, to := range besideOf(s.x, s.p.At) {
				if p, ok := s.goStep(to, storm); ok {
					steps++
					if !s.with(s.l, p).canReturn() {
						t.Errorf("in %s, to %d, with %v and %v, %v becomes %v, which cannot return", drawingOf(s.x), s.base, s.r, s.l, s.p, p)
					}
				}
			}
			if p, ok := s.waitStep(storm); ok {
				steps++
				if !s.with(s.l, p).canReturn() {
					t.Errorf("in %s, to %d, with %v and %v, %v becomes %v, which cannot return", drawingOf(s.x), s.base, s.r, s.l, s.p, p)
				}
			}
		}
	}
	if steps < 4000 {
		t.Errorf("there are only %d steps", steps)
	}
}

// wander goes on and waits in every way and weather for some days, and checks
// that the party comes home from everywhere.
func wander(t *testing.T, s scene, days int) int {
	t.Helper()
	comeHome(t, s)
	if days == 0 {
		return 1
	}
	ends := 0
	for _, storm := range []bool{false, true} {
		may := !storm || mayStormOf(s.r, s.p.Past)
		for _, to := range s.choices() {
			p, ok := s.goStep(to, storm)
			if ok != may {
				t.Fatalf("GoStep(%v, %d, %v) is %v", s.p, to, storm, ok)
			}
			if ok {
				ends += wander(t, s.with(nil, p), days-1)
			}
		}
		if p, ok := s.waitStep(storm); ok {
			ends += wander(t, s.with(nil, p), days-1)
		}
	}
	return ends
}

func TestWhoeverWandersComesHomeInEveryWeather(t *testing.T) {
	ends := 0
	for _, r := range []impl.Rule{calm, oneInThree, {Most: 1, Window: 2}, {Most: 2, Window: 3}} {
		for _, food := range []int{9, 17, 24} {
			ends += wander(t, campScene(0, food, "s").withRule(r), 4)
			ends += wander(t, campScene(10, food+9, "").withRule(r), 4)
		}
	}
	if ends < 5000 {
		t.Errorf("there are only %d ways to wander", ends)
	}
}

func TestNobodyGoesOnInBadScenes(t *testing.T) {
	for name, s := range badScenes() {
		for _, to := range []int{11, 13, 17, 0, 1, 5, -1, math.MaxInt, math.MinInt} {
			if s.mayGo(to) {
				t.Errorf("%s: MayGo(%.80v, %d, %v, %v, %v, %d) is true", name, s.x, s.base, s.r, s.l, s.p, to)
			}
			for _, storm := range []bool{false, true} {
				if p, ok := s.goStep(to, storm); ok || !sameParty(p, s.p) {
					t.Errorf("%s: GoStep(%.80v, %d, %v, %v, %v, %d, %v) is %v and %v", name, s.x, s.base, s.r, s.l, s.p, to, storm, p, ok)
				}
			}
			if got := s.stepsOn(to); got != 0 {
				t.Errorf("%s: StepsOn(%.80v, %d, %v, %v, %v, %d) is %d", name, s.x, s.base, s.r, s.l, s.p, to, got)
			}
		}
		if s.mayWait() {
			t.Errorf("%s: MayWait(%.80v, %d, %v, %v, %v) is true", name, s.x, s.base, s.r, s.l, s.p)
		}
		for _, storm := range []bool{false, true} {
			if p, ok := s.waitStep(storm); ok || !sameParty(p, s.p) {
				t.Errorf("%s: WaitStep(%.80v, %d, %v, %v, %v, %v) is %v and %v", name, s.x, s.base, s.r, s.l, s.p, storm, p, ok)
			}
		}
		if got := s.choices(); len(got) != 0 {
			t.Errorf("%s: ChoicesOf(%.80v, %d, %v, %v, %v) are %v", name, s.x, s.base, s.r, s.l, s.p, got)
		}
	}
}

func TestStepsFromAndToEachNumber(t *testing.T) {
	numbers := badCells(len(camp.Cells))
	for n := -3; n < len(camp.Cells)+3; n++ {
		numbers = append(numbers, n)
	}
	for _, at := range numbers {
		s := campScene(at, 45, "")
		for _, to := range numbers {
			checkGo(t, "each number", s, to, isOpenOf(camp, at) && to != at && s.maySetOutOf(to))
		}
		checkWait(t, "each number", s, isOpenOf(camp, at))
	}
}

func TestStepsKeepTheirArguments(t *testing.T) {
	for _, s := range keptScenes() {
		for _, storm := range []bool{false, true} {
			for _, to := range []int{11, 13, 5, 0} {
				checkOwnScene(t, "GoStep", s, func(s scene) (impl.Party, []impl.Depot) {
					p, _ := s.goStep(to, storm)
					return p, nil
				})
			}
			checkOwnScene(t, "WaitStep", s, func(s scene) (impl.Party, []impl.Depot) {
				p, _ := s.waitStep(storm)
				return p, nil
			})
		}
		g := guardScene(s)
		checkOwnMemory(t, "ChoicesOf", g.cells, g.choices)
		g.mayGo(11)
		g.mayWait()
		g.stepsOn(19)
		g.check(t, "MayGo, MayWait, StepsOn and ChoicesOf")
	}
}
