package tests

import (
	"math"
	"slices"
	"testing"

	"loop.example/g03008/impl"
)

// levels are those that there are, and others.
var levels = []int{impl.RtFull, impl.RtHalf, impl.RtThird, 3, 4, 10, -1, -2, -3, 1 << 32, 1<<32 + 1, math.MaxInt, math.MinInt, math.MinInt + 1}

// needAtOf is NeedAt of a valid crew: the least number that is enough for what
// is divided.
func needAtOf(l []impl.Member, level int) int {
	need := 0
	if level < 0 || level > 2 {
		return need
	}
	for need*(level+1) < needOf(l) {
		need++
	}
	return need
}

// lastsDaysOf is LastsDays of a party with a valid crew and not very much food,
// told by eating.
func lastsDaysOf(p impl.Party, level int) int {
	need, days := needAtOf(p.Crew, level), 0
	if need == 0 {
		return 0
	}
	for food := p.Food; food >= need; food -= need {
		days++
	}
	return days
}

// levelForOf is LevelFor of a party with a valid crew and not very much food.
func levelForOf(p impl.Party, days int) int {
	for level := range 3 {
		if days >= 0 && lastsDaysOf(p, level) >= days {
			return level
		}
	}
	return -1
}

// mixedDaysOf is MixedDays of a party with a valid crew, told by every k.
func mixedDaysOf(p impl.Party, days int) int {
	most := -1
	if days > 1000 {
		return most
	}
	for k := 0; k <= days; k++ {
		if k*needAtOf(p.Crew, impl.RtFull)+(days-k)*needAtOf(p.Crew, impl.RtHalf) <= p.Food {
			most = k
		}
	}
	return most
}

// eaters are a crew that needs so much in all.
func eaters(need int) []impl.Member {
	crew := []impl.Member{}
	for id := 1; need > 0; id++ {
		crew = append(crew, well(id, 5, min(need, 10)))
		need -= min(need, 10)
	}
	return crew
}

func checkNeedAt(t *testing.T, name string, l []impl.Member, level int, want int) {
	t.Helper()
	if got := impl.NeedAt(l, level); got != want {
		t.Errorf("%s: NeedAt(%v, %d) is %d, not %d", name, l, level, got, want)
	}
}

func checkLasts(t *testing.T, name string, p impl.Party, level int, want int) {
	t.Helper()
	if got := impl.LastsDays(p, level); got != want {
		t.Errorf("%s: LastsDays(%v, %d) is %d, not %d", name, p, level, got, want)
	}
}

func checkLevel(t *testing.T, name string, p impl.Party, days int, want int) {
	t.Helper()
	if got := impl.LevelFor(p, days); got != want {
		t.Errorf("%s: LevelFor(%v, %d) is %d, not %d", name, p, days, got, want)
	}
}

func checkMixed(t *testing.T, name string, p impl.Party, days int, want int) {
	t.Helper()
	if got := impl.MixedDays(p, days); got != want {
		t.Errorf("%s: MixedDays(%v, %d) is %d, not %d", name, p, days, got, want)
	}
}

func TestLevels(t *testing.T) {
	if impl.RtFull != 0 || impl.RtHalf != 1 || impl.RtThird != 2 {
		t.Errorf("the levels are %d, %d and %d", impl.RtFull, impl.RtHalf, impl.RtThird)
	}
	names := map[int]string{0: "full", 1: "half", 2: "third"}
	for _, level := range levels {
		if got := impl.LevelName(level); got != names[level] {
			t.Errorf("LevelName(%d) is %q, not %q", level, got, names[level])
		}
	}
}

func TestNeedAt(t *testing.T) {
	for _, c := range []struct {
		name              string
		l                 []impl.Member
		full, half, third int
	}{
		{"with a rest", []impl.Member{well(1, 5, 2), well(2, 5, 3)}, 5, 3, 2},
		{"without a rest by 2", eaters(8), 8, 4, 3},
		{"without a rest by 3", eaters(9), 9, 5, 3},
		{"without a rest", eaters(12), 12, 6, 4},
		{"with a rest of 1 by 3", eaters(7), 7, 4, 3},
		{"the ill eat, too", trio, 6, 3, 2},
		{"all ill", sick, 16, 8, 6},
		{"the most that there can be", strong, 80, 40, 27},
		{"the least that there can be", eaters(1), 1, 1, 1},
		{"two", eaters(2), 2, 1, 1},
		{"three", eaters(3), 3, 2, 1},
		{"nobody", nil, 0, 0, 0},
		{"nobody, empty", []impl.Member{}, 0, 0, 0},
		{"no crew, as it is not in order", []impl.Member{well(2, 5, 2), well(1, 5, 3)}, 0, 0, 0},
		{"no crew, as one eats nothing", []impl.Member{well(1, 5, 2), well(2, 5, 0)}, 0, 0, 0},
		{"no crew, as there are nine", append(slices.Clone(strong[1:]), well(1, 1, 1), well(2, 1, 1)), 0, 0, 0},
	} {
		checkNeedAt(t, c.name, c.l, impl.RtFull, c.full)
		checkNeedAt(t, c.name, c.l, impl.RtHalf, c.half)
		checkNeedAt(t, c.name, c.l, impl.RtThird, c.third)
		for _, level := range levels[3:] {
			checkNeedAt(t, c.name, c.l, level, 0)
		}
	}
}

func TestLastsDays(t *testing.T) {
	two := []impl.Member{well(1, 5, 2), well(2, 5, 3)}
	for _, c := range []struct {
		name              string
		p                 impl.Party
		full, half, third int
	}{
		{"for whole days", crewWith(two, 30), 6, 10, 15},
		{"with a rest", crewWith(two, 34), 6, 11, 17},
		{"just what is needed at RtFull", crewWith(two, 5), 1, 1, 2},
		{"one unit less than that", crewWith(two, 4), 0, 1, 2},
		{"just what is needed at RtHalf", crewWith(two, 3), 0, 1, 1},
		{"just what is needed at RtThird", crewWith(two, 2), 0, 0, 1},
		{"one unit less than for a day", crewWith(two, 1), 0, 0, 0},
		{"no food", crewWith(two, 0), 0, 0, 0},
		{"food below 0", crewWith(two, -1), 0, 0, 0},
		{"food below 0 for days", crewWith(two, -30), 0, 0, 0},
		{"the most food", crewWith(eaters(1), 10000), 10000, 10000, 10000},
		{"more than the most food", crewWith(eaters(3), 30000), 10000, 15000, 30000},
		{"the greatest int", crewWith(eaters(3), math.MaxInt), math.MaxInt / 3, math.MaxInt / 2, math.MaxInt},
		{"the least int", crewWith(eaters(3), math.MinInt), 0, 0, 0},
		{"the least int, for who needs 1", crewWith(eaters(1), math.MinInt), 0, 0, 0},
		{"for nobody", crewWith(nil, 30), 0, 0, 0},
		{"for nobody, the greatest int", crewWith([]impl.Member{}, math.MaxInt), 0, 0, 0},
		{"for no crew", crewWith([]impl.Member{well(2, 5, 2), well(1, 5, 3)}, 30), 0, 0, 0},
		{"for the ill", crewWith(sick, 33), 2, 4, 5},
		{"for no party", impl.Party{At: -1, Food: 12, Crew: eaters(3), Past: make([]bool, 99)}, 4, 6, 12},
	} {
		checkLasts(t, c.name, c.p, impl.RtFull, c.full)
		checkLasts(t, c.name, c.p, impl.RtHalf, c.half)
		checkLasts(t, c.name, c.p, impl.RtThird, c.third)
		for _, level := range levels[3:] {
			checkLasts(t, c.name, c.p, level, 0)
		}
	}
}

func TestLevelFor(t *testing.T) {
	two := crewWith([]impl.Member{well(1, 5, 2), well(2, 5, 3)}, 30)
	for _, c := range []struct {
		name string
		p    impl.Party
		days int
		want int
	}{
		{"no days", two, 0, impl.RtFull},
		{"a day", two, 1, impl.RtFull},
		{"as many days as at RtFull", two, 6, impl.RtFull},
		{"a day more", two, 7, impl.RtHalf},
		{"as many days as at RtHalf", two, 10, impl.RtHalf},
		{"a day more than at RtHalf", two, 11, impl.RtThird},
		{"as many days as at RtThird", two, 15, impl.RtThird},
		{"a day more than at RtThird", two, 16, -1},
		{"far too many days", two, 1001, -1},
		{"days below 0", two, -1, -1},
		{"the greatest int of days", two, math.MaxInt, -1},
		{"the least int of days", two, math.MinInt, -1},
		{"RtHalf is not better", crewWith(eaters(1), 5), 6, -1},
		{"RtThird is not better", crewWith(eaters(2), 6), 7, -1},
		{"RtHalf is not better, RtThird is", crewWith(eaters(3), 1), 1, impl.RtThird},
		{"no food, no days", crewWith(eaters(3), 0), 0, impl.RtFull},
		{"no food, a day", crewWith(eaters(3), 0), 1, -1},
		{"food below 0, no days", crewWith(eaters(3), -5), 0, impl.RtFull},
		{"food below 0, a day", crewWith(eaters(3), -5), 1, -1},
		{"food below 0, days below 0", crewWith(eaters(3), -5), -1, -1},
		{"the greatest int of food", crewWith(eaters(3), math.MaxInt), math.MaxInt / 3, impl.RtFull},
		{"the greatest int of both", crewWith(eaters(3), math.MaxInt), math.MaxInt, impl.RtThird},
		{"the least int of food", crewWith(eaters(3), math.MinInt), 1, -1},
		{"nobody, no days", crewWith(nil, 30), 0, impl.RtFull},
		{"nobody, a day", crewWith(nil, 30), 1, -1},
		{"nobody, days below 0", crewWith(nil, 30), -1, -1},
		{"no crew", crewWith([]impl.Member{well(2, 5, 2), well(1, 5, 3)}, 30), 1, -1},
	} {
		checkLevel(t, c.name, c.p, c.days, c.want)
	}
}

func TestMixedDays(t *testing.T) {
	two := crewWith([]impl.Member{well(1, 5, 2), well(2, 5, 3)}, 30)
	for _, c := range []struct {
		name string
		p    impl.Party
		days int
		want int
	}{
		{"no days", two, 0, 0},
		{"all days at RtFull, and food is left", two, 5, 5},
		{"all days at RtFull", two, 6, 6},
		{"a day more", two, 7, 4},
		{"some days at RtFull", two, 8, 3},
		{"a day at RtFull", two, 9, 1},
		{"all days at RtHalf", two, 10, 0},
		{"just not enough for RtHalf", two, 11, -1},
		{"just not enough for RtHalf, by a unit", crewWith(two.Crew, 29), 10, -1},
		{"all days at RtHalf, and a unit is left", crewWith(two.Crew, 31), 10, 0},
		{"all days at RtHalf, but one", crewWith(two.Crew, 32), 10, 1},
		{"far too many days", two, 1000, -1},
		{"as many days as may be", crewWith(eaters(1), 1000), 1000, 1000},
		{"as many days as may be, at RtHalf", crewWith(eaters(2), 1000), 1000, 0},
		{"as many days as may be, partly", crewWith(eaters(2), 1500), 1000, 500},
		{"a day too many", crewWith(eaters(1), 2000), 1001, -1},
		{"days below 0", two, -1, -1},
		{"days below 0, food below 0", crewWith(two.Crew, -30), -1, -1},
		{"the greatest int of days", two, math.MaxInt, -1},
		{"the least int of days", two, math.MinInt, -1},
		{"RtHalf is as much as RtFull", crewWith(eaters(1), 4), 4, 4},
		{"RtHalf is as much as RtFull, not enough", crewWith(eaters(1), 4), 5, -1},
		{"no food, no days", crewWith(eaters(3), 0), 0, 0},
		{"no food, a day", crewWith(eaters(3), 0), 1, -1},
		{"food below 0, no days", crewWith(eaters(3), -1), 0, -1},
		{"food below 0, a day", crewWith(eaters(3), -1), 1, -1},
		{"the greatest int of food", crewWith(strong, math.MaxInt), 1000, 1000},
		{"the least int of food", crewWith(strong, math.MinInt), 1000, -1},
		{"the least int of food, no days", crewWith(strong, math.MinInt), 0, -1},
		{"the most that is needed", crewWith(strong, 80000), 1000, 1000},
		{"a unit less", crewWith(strong, 79999), 1000, 999},
		{"nobody", crewWith(nil, 30), 1, -1},
		{"nobody, no days", crewWith(nil, 30), 0, -1},
		{"no crew", crewWith([]impl.Member{well(2, 5, 2), well(1, 5, 3)}, 30), 3, -1},
		{"no party", impl.Party{At: -1, Food: 12, Crew: eaters(3), Past: make([]bool, 99)}, 5, 2},
	} {
		checkMixed(t, c.name, c.p, c.days, c.want)
	}
}

func TestLessFoodADayLastsLonger(t *testing.T) {
	throw := dice()
	for _, crew := range goodCrews() {
		for level := range 3 {
			checkNeedAt(t, "each crew", crew, level, needAtOf(crew, level))
		}
		for _, food := range []int{-1, 0, 1, needOf(crew) - 1, needOf(crew), throw(100), throw(2000), throw(10001)} {
			p := crewWith(crew, food)
			before := 0
			for level := range 3 {
				lasts := lastsDaysOf(p, level)
				checkLasts(t, "each party", p, level, lasts)
				if lasts < before {
					t.Errorf("at the level %d, the food of %v lasts %d days, and at the one before %d", level, p, lasts, before)
				}
				before = lasts
				for more := -1; more <= 1; more++ {
					checkLevel(t, "each party", p, lasts+more, levelForOf(p, lasts+more))
				}
			}
		}
	}
}

func TestMixedDaysAreHeldAgainstEveryK(t *testing.T) {
	throw := dice()
	for _, crew := range goodCrews() {
		for _, food := range []int{-1, 0, needOf(crew), throw(100), throw(2000), throw(10001)} {
			p := crewWith(crew, food)
			for _, days := range []int{-1, 0, 1, 2, throw(100), lastsDaysOf(p, impl.RtFull), lastsDaysOf(p, impl.RtHalf), lastsDaysOf(p, impl.RtHalf) + 1} {
				want := mixedDaysOf(p, days)
				checkMixed(t, "each party", p, days, want)
				// Where all days can be at one level, that is the level for them.
				if level := impl.LevelFor(p, days); days >= 0 && days <= 1000 && food >= 0 && (want == days) != (level == impl.RtFull) {
					t.Errorf("of %d days, %v can eat on %d at RtFull, and LevelFor is %d", days, p, want, level)
				}
			}
		}
	}
}

func TestRationsForNobody(t *testing.T) {
	for _, crew := range badCrews() {
		for _, level := range levels {
			checkNeedAt(t, "bad crew", crew, level, 0)
		}
		for _, food := range []int{math.MinInt, -1, 0, 30, 10000, math.MaxInt} {
			p := crewWith(crew, food)
			for _, level := range levels {
				checkLasts(t, "bad crew", p, level, 0)
			}
			for _, days := range []int{math.MinInt, -1, 1, 1000, 1001, math.MaxInt} {
				checkLevel(t, "bad crew", p, days, -1)
				checkMixed(t, "bad crew", p, days, -1)
			}
			// No days are as many as nobody's food lasts.
			checkLevel(t, "bad crew", p, 0, impl.RtFull)
			checkMixed(t, "bad crew", p, 0, -1)
		}
	}
}

func TestRationsKeepTheirParties(t *testing.T) {
	for _, crew := range append(badCrews()[:14], namedCrews...) {
		g := guardParty(impl.Party{At: 3, Food: 50, Crew: crew, Past: pastOf("s..s")})
		for _, level := range levels {
			impl.NeedAt(g.party.Crew, level)
			impl.LastsDays(g.party, level)
			impl.LevelFor(g.party, level)
			impl.MixedDays(g.party, level)
			g.check(t, "the functions of rations")
		}
	}
}

func TestRationsKeepNoState(t *testing.T) {
	p := crewWith(slices.Clone(trio), 30)
	first := impl.MixedDays(p, 7)
	p.Crew[0].Need = 1
	second := impl.MixedDays(p, 7)
	p.Crew[0].Id = 5
	third := impl.MixedDays(p, 7)
	if first != 3 || second != 4 || third != -1 {
		t.Errorf("while the crew changes, MixedDays is %d, %d and %d", first, second, third)
	}
}
